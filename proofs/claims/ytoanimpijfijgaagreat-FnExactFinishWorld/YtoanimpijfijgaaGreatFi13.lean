/-
  Texts of this proof in one: ImplStepped, FacePlain, SpecWA, SpecWNext, NodeFew, WorldFew, NetFew, DropPlain, LosePlain, SpecAsk13, ToldPlainW, OpenHit, OpenEntry, OpenChain, OpenWrite, OpenNode, OpenMsg, OpenWorld, SpecTold, CommPlain, StatePlain, FinPlain, SpecEntry, SpecComm, SpecSeen.
  Their conditions stand in their theorems.
-/
import Derived.Test.YtoanimpijfijgaaGreatFi12
import Derived.Defers
import Derived.Recover
import Derived.Laws.Pointers
import Derived.Test.YtoanimpijfijgaaGreatFi00
import Derived.Test.YtoanimpijfijgaaGreatFi06
import Derived.Test.YtoanimpijfijgaaGreatFi09
import Derived.Test.YtoanimpijfijgaaGreatFi08
import Derived.Deep.CutRange
import Derived.Test.YtoanimpijfijgaaGreatFi04
import Derived.Test.YtoanimpijfijgaaGreatFi07
import Derived.Test.YtoanimpijfijgaaGreatFi10
import Derived.Test.YtoanimpijfijgaaGreatFi01
import Derived.Test.YtoanimpijfijgaaGreatFi05
import Derived.Test.YtoanimpijfijgaaGreatChecked
import Derived.Deep.RegionHeld3
import Derived.Deep.QuietTactic
import Derived.BigQuiet
set_option maxRecDepth 100000
set_option maxHeartbeats 4000000
namespace Go.Proofs.YtoanimpijfijgaaGreat
open Go.RowKit
theorem box_set9W {lo : Nat} {T : TypeId} {W : World} {s : Nat} {c0 c1 c2 c3 c4 c5 c6 c7 c8 : Value} (h : Box lo #[c0, c1, c2, c3, c4, c5, c6, c7, c8] T W s) (v0 v1 v2 v3 v4 v5 v6 v7 v8 : Value) : Box lo #[v0, v1, v2, v3, v4, v5, v6, v7, v8] T (setAll W s 0 [v0, v1, v2, v3, v4, v5, v6, v7, v8]) s := by
 have q := (Box.set (Box.set (Box.set (Box.set (Box.set (Box.set (Box.set (Box.set (Box.set h 0 v0) 1 v1) 2 v2) 3 v3) 4 v4) 5 v5) 6 v6) 7 v7) 8 v8)
 simp only [List.setIfInBounds_toArray, List.set_cons_zero, List.set_cons_succ] at q
 exact q
theorem put_bad (p q s : Nat) (c : Int) (w : World) (hx : Box 0 #[.int .i64 c, .bool false, .int .i64 0, .int .i64 0, .int .i64 0, .slice none 0 0, .slice none 0 0, .slice none 0 0, .slice none 0 0] 38 w p) (hc : c ≠ 0) :
  CallsD Tryz.prog 136 #[.pointer (some ⟨p, 0, none⟩), .pointer (some ⟨q, 0, none⟩), .pointer (some ⟨s, 0, none⟩)] .returning w fun e u' w' => u' = .returning ∧ (e = .returned (.tuple #[]) ∧ w' = w) := by
 have r0 := Box.at hx 0 _ rfl
 simp only [List.getElem_toArray, List.getElem_cons_zero] at r0
 have hd : (c == 0) = false := by simpa using hc
 have rl := hx.lt
 clear hx hc
 refine CallsD.mono (R := fun e u' w' => u' = .returning ∧ (e = .returned (.tuple #[]) ∧ w' = w)) ?_ (fun _ _ _ q => q)
 go_enter_d Tryz.func136, Tryz.ntmps136
 go_wp2_with fail
 go_end0
 exact ⟨rfl, rfl⟩
theorem put_ok (p q s N : Nat) (cap : Array Value) (a3 : Option Addr) (d3 : Nat) (a4 : Option Addr) (d4 : Nat) (a5 : Option Addr) (d5 : Nat) (a6 : Option Addr) (d6 : Nat) (x : DWorld) (c : Int) (mv : Bool) (z : DWorld) (w : World) (hx : Box 0 #[.int .i64 0, .bool false, .int .i64 0, .int .i64 0, .int .i64 0, .slice none 0 0, .slice none 0 0, .slice none 0 0, .slice none 0 0] 38 w p) (hw : Box 0 #[.int .i64 x.now, .int .i64 x.events, .int .i64 x.chain.epoch, .slice a3 x.chain.ids.length d3, .slice a4 x.nodes.length d4, .slice a5 x.msgs.length d5, .slice a6 x.history.length d6] 36 w q) (hs : Box 0 #[.func (.func N) #[] cap] 96 w s)
  (hfa : ∀ (a : Array Value) (W : World), (callFunc N (a ++ cap)).run Tryz.prog W = .ok (.enter N (a ++ cap)) W) (h : Lay.tWorld.Reads w [.int .i64 x.now, .int .i64 x.events, .int .i64 x.chain.epoch, .slice a3 x.chain.ids.length d3, .slice a4 x.nodes.length d4, .slice a5 x.msgs.length d5, .slice a6 x.history.length d6] x) (hok : WorldOK x) (hf : Fits x) (hc : -1000000000 ≤ c ∧ c ≤ 1000000000) (hstep : ∀ W, Below w.heap.size w W → StepC w.heap.size N cap (nextW x) c mv z W) :
  CallsD Tryz.prog 136 #[.pointer (some ⟨p, 0, none⟩), .pointer (some ⟨q, 0, none⟩), .pointer (some ⟨s, 0, none⟩)] .returning w fun e u' w' => u' = .returning ∧ (e = .returned (.tuple #[]) ∧ ∃ cs w1 lo, w' = setAll w1 p 0 cs ∧ cs.length = 9 ∧ Box 0 #[.int .i64 0, .bool false, .int .i64 0, .int .i64 0, .int .i64 0, .slice none 0 0, .slice none 0 0, .slice none 0 0, .slice none 0 0] 38 w1 p ∧ Lay.tWorldResult.OwnIn w1 cs (resW c mv z) lo w1.heap.size ∧ w.heap.size ≤ lo ∧ Below w.heap.size w w1) := by
 have HL := yh (doneInC N cap _ x c mv z w hfa h hok hf hc hstep)
 have HX := yh hx
 have z0 := Box.at hw 0 _ rfl
 have z1 := Box.at hw 1 _ rfl
 have z2 := Box.at hw 2 _ rfl
 have z3 := Box.at hw 3 _ rfl
 have z4 := Box.at hw 4 _ rfl
 have z5 := Box.at hw 5 _ rfl
 have z6 := Box.at hw 6 _ rfl
 simp only [ga, gb, gc] at z0 z1 z2 z3 z4 z5 z6
 have s0 := Box.at hs 0 _ rfl
 have r0 := Box.at hx 0 _ rfl
 simp only [List.getElem_toArray, List.getElem_cons_zero] at s0 r0
 have zl := hw.lt
 have sl := hs.lt
 have rl := hx.lt
 clear hx hw hs h hok hf hstep hfa
 generalize resW c mv z = y at *
 go_enter_d Tryz.func136, Tryz.ntmps136
 go_wp2_with fail
 refine (uh HL).mono ?_
 rintro e w1 ⟨cs, rfl, O, hb⟩
 obtain ⟨a5, d5, a6, d6, a7, d7, a8, d8, rfl, -⟩ := open_WorldResult O.reads
 have hx := (uh HX).keep hb
 have HX1 := yh hx
 clear r0
 have r0 := Box.at hx 0 _ rfl
 have r1 := Box.at hx 1 _ rfl
 have r2 := Box.at hx 2 _ rfl
 have r3 := Box.at hx 3 _ rfl
 have r4 := Box.at hx 4 _ rfl
 have r5 := Box.at hx 5 _ rfl
 have r6 := Box.at hx 6 _ rfl
 have r7 := Box.at hx 7 _ rfl
 have r8 := Box.at hx 8 _ rfl
 simp only [ga, gb, gc] at r0 r1 r2 r3 r4 r5 r6 r7 r8
 have rf := Box.soft hx
 have HO := yh O
 have HB := yh hb
 have rl1 := hx.lt
 clear hx O hb HL HX s0 zl sl rl z0 z1 z2 z3 z4 z5 z6
 go_wp2_with fail
 go_end0
 exact ⟨rfl, [.int .i64 y.code, .bool y.moved, .int .i64 y.world.now, .int .i64 y.world.events, .int .i64 y.world.chain.epoch, .slice a5 y.world.chain.ids.length d5, .slice a6 y.world.nodes.length d6, .slice a7 y.world.msgs.length d7, .slice a8 y.world.history.length d8], w1, w.heap.size, rfl, rfl, uh HX1, uh HO, Nat.le_refl _, uh HB⟩
def steppedR (x : DWorld) (wrong c : Int) (mv : Bool) (z : DWorld) : DWorldResult := if wrong ≠ 0 then badWorld wrong else if 9999 ≤ x.events then badWorld 2 else resW c mv z
theorem steppedC (N : Nat) (cap : Array Value) (cs : List Value) (x : DWorld) (wrong c : Int) (mv : Bool) (z : DWorld) (w : World) (hfa : ∀ (a : Array Value) (W : World), (callFunc N (a ++ cap)).run Tryz.prog W = .ok (.enter N (a ++ cap)) W) (h : Lay.tWorld.Reads w cs x) (hok : wrong = 0 → WorldOK x) (hf : Fits x) (hc : -1000000000 ≤ c ∧ c ≤ 1000000000) (hwr : -1000000000 ≤ wrong ∧ wrong ≤ 1000000000)
  (hstep : wrong = 0 → ∀ W, Below w.heap.size w W → StepC w.heap.size N cap (nextW x) c mv z W) :
  Calls Tryz.prog 70 #[.agg cs.toArray, .int .i64 wrong, .func (.func N) #[] cap] w fun e w' => ∃ cs', e = .returned (.agg cs'.toArray) ∧ Lay.tWorldResult.OwnIn w' cs' (steppedR x wrong c mv z) w.heap.size w'.heap.size ∧ Below w.heap.size w w' := by
 have hmf : ∀ (fn : Fn) (first cap : Array Value) (w : World), (Instr.makeFunc fn first cap).run Tryz.prog w = .ok (.func fn first cap) w := fun _ _ _ _ => rfl
 obtain ⟨a3, d3, a4, d4, a5, d5, a6, d6, rfl, -, -, -, -⟩ := open_World h
 have nb : Below w.heap.size w (((w.alloc (.cells #[.int .i64 x.now, .int .i64 x.events, .int .i64 x.chain.epoch, .slice a3 x.chain.ids.length d3, .slice a4 x.nodes.length d4, .slice a5 x.msgs.length d5, .slice a6 x.history.length d6] 36)).alloc (.cells #[.func (.func N) #[] cap] 96)).alloc (.cells #[.int .i64 0, .bool false, .int .i64 0, .int .i64 0, .int .i64 0, .slice none 0 0, .slice none 0 0, .slice none 0 0, .slice none 0 0] 38)) := (((Below.refl _ _).alloc (Nat.le_refl _) _).alloc (by simp) _).alloc (by simp; omega) _
 have HX : Hid (Box 0 #[.int .i64 x.now, .int .i64 x.events, .int .i64 x.chain.epoch, .slice a3 x.chain.ids.length d3, .slice a4 x.nodes.length d4, .slice a5 x.msgs.length d5, .slice a6 x.history.length d6] 36 (((w.alloc (.cells #[.int .i64 x.now, .int .i64 x.events, .int .i64 x.chain.epoch, .slice a3 x.chain.ids.length d3, .slice a4 x.nodes.length d4, .slice a5 x.msgs.length d5, .slice a6 x.history.length d6] 36)).alloc (.cells #[.func (.func N) #[] cap] 96)).alloc (.cells #[.int .i64 0, .bool false, .int .i64 0, .int .i64 0, .int .i64 0, .slice none 0 0, .slice none 0 0, .slice none 0 0, .slice none 0 0] 38)) w.heap.size) := ((newBox (Nat.zero_le _)).grow _).grow _
 have HS : Hid (Box 0 #[.func (.func N) #[] cap] 96 (((w.alloc (.cells #[.int .i64 x.now, .int .i64 x.events, .int .i64 x.chain.epoch, .slice a3 x.chain.ids.length d3, .slice a4 x.nodes.length d4, .slice a5 x.msgs.length d5, .slice a6 x.history.length d6] 36)).alloc (.cells #[.func (.func N) #[] cap] 96)).alloc (.cells #[.int .i64 0, .bool false, .int .i64 0, .int .i64 0, .int .i64 0, .slice none 0 0, .slice none 0 0, .slice none 0 0, .slice none 0 0] 38)) (w.heap.size + 1)) := (newBoxAt (Nat.zero_le _) (by simp)).grow _
 have HY : Hid (Box 0 #[.int .i64 0, .bool false, .int .i64 0, .int .i64 0, .int .i64 0, .slice none 0 0, .slice none 0 0, .slice none 0 0, .slice none 0 0] 38 (((w.alloc (.cells #[.int .i64 x.now, .int .i64 x.events, .int .i64 x.chain.epoch, .slice a3 x.chain.ids.length d3, .slice a4 x.nodes.length d4, .slice a5 x.msgs.length d5, .slice a6 x.history.length d6] 36)).alloc (.cells #[.func (.func N) #[] cap] 96)).alloc (.cells #[.int .i64 0, .bool false, .int .i64 0, .int .i64 0, .int .i64 0, .slice none 0 0, .slice none 0 0, .slice none 0 0, .slice none 0 0] 38)) (w.heap.size + 1 + 1)) := newBoxAt (Nat.zero_le _) (by simp)
 have hz0 : (((w.alloc (.cells #[.int .i64 x.now, .int .i64 x.events, .int .i64 x.chain.epoch, .slice a3 x.chain.ids.length d3, .slice a4 x.nodes.length d4, .slice a5 x.msgs.length d5, .slice a6 x.history.length d6] 36)).alloc (.cells #[.func (.func N) #[] cap] 96)).alloc (.cells #[.int .i64 0, .bool false, .int .i64 0, .int .i64 0, .int .i64 0, .slice none 0 0, .slice none 0 0, .slice none 0 0, .slice none 0 0] 38)).heap.size = w.heap.size + 3 := by simp
 have HR := yh (h.later nb)
 have HRD := h
 have HB := yh nb
 clear nb h
 have HWR := yh hwr
 by_cases hw : wrong ≠ 0
 ·
  have hd : (wrong != 0) = true := by simpa using hw
  have HRS : Hid (steppedR x wrong c mv z = badWorld wrong) := if_pos hw
  have HW := yh hw
  clear hok hstep hfa hf hc hwr hw
  go_enter_defers Tryz.func70, Tryz.ntmps70
  go_upto_region 1 with fail
  generalize ((w.alloc (.cells #[.int .i64 x.now, .int .i64 x.events, .int .i64 x.chain.epoch, .slice a3 x.chain.ids.length d3, .slice a4 x.nodes.length d4, .slice a5 x.msgs.length d5, .slice a6 x.history.length d6] 36)).alloc (.cells #[.func (.func N) #[] cap] 96)).alloc (.cells #[.int .i64 0, .bool false, .int .i64 0, .int .i64 0, .int .i64 0, .slice none 0 0, .slice none 0 0, .slice none 0 0, .slice none 0 0] 38) = W0 at *
  have hy := uh HY
  have r0 := Box.at hy 0 _ rfl
  have r1 := Box.at hy 1 _ rfl
  have r2 := Box.at hy 2 _ rfl
  have r3 := Box.at hy 3 _ rfl
  have r4 := Box.at hy 4 _ rfl
  have r5 := Box.at hy 5 _ rfl
  have r6 := Box.at hy 6 _ rfl
  have r7 := Box.at hy 7 _ rfl
  have r8 := Box.at hy 8 _ rfl
  simp only [ga, gb, gc] at r0 r1 r2 r3 r4 r5 r6 r7 r8
  have rf := Box.soft hy
  have rl := hy.lt
  have hy2 := box_set9W hy (.int .i64 wrong) (.bool false) (.int .i64 0) (.int .i64 0) (.int .i64 0) (.slice none 0 0) (.slice none 0 0) (.slice none 0 0) (.slice none 0 0)
  have HQ := yh (put_bad (w.heap.size + 1 + 1) w.heap.size (w.heap.size + 1) wrong _ hy2 (uh HW))
  have HY2 := yh hy2
  have HB2 := yh (below_setAll (uh HB) (w.heap.size + 1 + 1) 0 [.int .i64 wrong, .bool false, .int .i64 0, .int .i64 0, .int .i64 0, .slice none 0 0, .slice none 0 0, .slice none 0 0, .slice none 0 0] (by omega))
  clear hy hy2 HY HB
  go_wp2_with fail
  refine leaves_cons (f := 136) (args := #[.pointer (some ⟨w.heap.size + 1 + 1, 0, none⟩), .pointer (some ⟨w.heap.size, 0, none⟩), .pointer (some ⟨w.heap.size + 1, 0, none⟩)]) (by simp) (by simp [go_sem]) ?_
  refine (uh HQ).mono ?_
  rintro e u' w2 ⟨rfl, rfl, rfl⟩
  have hy2 := uh HY2
  clear r0 r1 r2 r3 r4 r5 r6 r7 r8 rf rl
  have r0 := Box.at hy2 0 _ rfl
  have r1 := Box.at hy2 1 _ rfl
  have r2 := Box.at hy2 2 _ rfl
  have r3 := Box.at hy2 3 _ rfl
  have r4 := Box.at hy2 4 _ rfl
  have r5 := Box.at hy2 5 _ rfl
  have r6 := Box.at hy2 6 _ rfl
  have r7 := Box.at hy2 7 _ rfl
  have r8 := Box.at hy2 8 _ rfl
  simp only [ga, gb, gc] at r0 r1 r2 r3 r4 r5 r6 r7 r8
  refine ⟨.agg #[.int .i64 wrong, .bool false, .int .i64 0, .int .i64 0, .int .i64 0, .slice none 0 0, .slice none 0 0, .slice none 0 0, .slice none 0 0], ?_, ?_⟩
  ·
   simp [results, Tryz.results70, go_sem, r0, r1, r2, r3, r4, r5, r6, r7, r8]
  rw [uh HRS]
  exact ⟨[.int .i64 wrong, .bool false, .int .i64 0, .int .i64 0, .int .i64 0, .slice none 0 0, .slice none 0 0, .slice none 0 0, .slice none 0 0], rfl, own_badW (uh HWR) (uh HB2).size, uh HB2⟩
 have hw0 : wrong = 0 := by simpa using hw
 subst hw0
 by_cases he : 9999 ≤ x.events
 ·
  have hd : decide (9999 ≤ x.events) = true := by simpa using he
  have HRS : Hid (steppedR x 0 c mv z = badWorld 2) := by show steppedR x 0 c mv z = _; rw [steppedR, if_neg (by simp), if_pos he]
  clear hok hstep hfa hf hc hwr hw he
  go_enter_defers Tryz.func70, Tryz.ntmps70
  go_upto_region 1 with fail
  generalize ((w.alloc (.cells #[.int .i64 x.now, .int .i64 x.events, .int .i64 x.chain.epoch, .slice a3 x.chain.ids.length d3, .slice a4 x.nodes.length d4, .slice a5 x.msgs.length d5, .slice a6 x.history.length d6] 36)).alloc (.cells #[.func (.func N) #[] cap] 96)).alloc (.cells #[.int .i64 0, .bool false, .int .i64 0, .int .i64 0, .int .i64 0, .slice none 0 0, .slice none 0 0, .slice none 0 0, .slice none 0 0] 38) = W0 at *
  have hx1 := Box.at (uh HX) 1 _ rfl
  simp only [ga, gb, gc] at hx1
  have hxl := (uh HX).lt
  have hy := uh HY
  have r0 := Box.at hy 0 _ rfl
  have r1 := Box.at hy 1 _ rfl
  have r2 := Box.at hy 2 _ rfl
  have r3 := Box.at hy 3 _ rfl
  have r4 := Box.at hy 4 _ rfl
  have r5 := Box.at hy 5 _ rfl
  have r6 := Box.at hy 6 _ rfl
  have r7 := Box.at hy 7 _ rfl
  have r8 := Box.at hy 8 _ rfl
  simp only [ga, gb, gc] at r0 r1 r2 r3 r4 r5 r6 r7 r8
  have rf := Box.soft hy
  have rl := hy.lt
  have hy2 := box_set9W hy (.int .i64 2) (.bool false) (.int .i64 0) (.int .i64 0) (.int .i64 0) (.slice none 0 0) (.slice none 0 0) (.slice none 0 0) (.slice none 0 0)
  have HQ := yh (put_bad (w.heap.size + 1 + 1) w.heap.size (w.heap.size + 1) 2 _ hy2 (by decide))
  have HY2 := yh hy2
  have HB2 := yh (below_setAll (uh HB) (w.heap.size + 1 + 1) 0 [.int .i64 2, .bool false, .int .i64 0, .int .i64 0, .int .i64 0, .slice none 0 0, .slice none 0 0, .slice none 0 0, .slice none 0 0] (by omega))
  clear hy hy2 HY HB
  go_wp2_with fail
  refine leaves_cons (f := 136) (args := #[.pointer (some ⟨w.heap.size + 1 + 1, 0, none⟩), .pointer (some ⟨w.heap.size, 0, none⟩), .pointer (some ⟨w.heap.size + 1, 0, none⟩)]) (by simp) (by simp [go_sem]) ?_
  refine (uh HQ).mono ?_
  rintro e u' w2 ⟨rfl, rfl, rfl⟩
  have hy2 := uh HY2
  clear r0 r1 r2 r3 r4 r5 r6 r7 r8 rf rl
  have r0 := Box.at hy2 0 _ rfl
  have r1 := Box.at hy2 1 _ rfl
  have r2 := Box.at hy2 2 _ rfl
  have r3 := Box.at hy2 3 _ rfl
  have r4 := Box.at hy2 4 _ rfl
  have r5 := Box.at hy2 5 _ rfl
  have r6 := Box.at hy2 6 _ rfl
  have r7 := Box.at hy2 7 _ rfl
  have r8 := Box.at hy2 8 _ rfl
  simp only [ga, gb, gc] at r0 r1 r2 r3 r4 r5 r6 r7 r8
  refine ⟨.agg #[.int .i64 2, .bool false, .int .i64 0, .int .i64 0, .int .i64 0, .slice none 0 0, .slice none 0 0, .slice none 0 0, .slice none 0 0], ?_, ?_⟩
  ·
   simp [results, Tryz.results70, go_sem, r0, r1, r2, r3, r4, r5, r6, r7, r8]
  rw [uh HRS]
  exact ⟨[.int .i64 2, .bool false, .int .i64 0, .int .i64 0, .int .i64 0, .slice none 0 0, .slice none 0 0, .slice none 0 0, .slice none 0 0], rfl, own_badW (by decide) (uh HB2).size, uh HB2⟩
 have hd : decide (9999 ≤ x.events) = false := by simpa using he
 have HRS : Hid (steppedR x 0 c mv z = resW c mv z) := by show steppedR x 0 c mv z = _; rw [steppedR, if_neg (by simp), if_neg he]
 have HOK := yh (hok rfl)
 have HST := yh (hstep rfl)
 have HFA := yh hfa
 have HF := yh hf
 have HC := yh hc
 clear hok hstep hfa hf hc hwr hw he
 go_enter_defers Tryz.func70, Tryz.ntmps70
 go_upto_region 1 with fail
 generalize ((w.alloc (.cells #[.int .i64 x.now, .int .i64 x.events, .int .i64 x.chain.epoch, .slice a3 x.chain.ids.length d3, .slice a4 x.nodes.length d4, .slice a5 x.msgs.length d5, .slice a6 x.history.length d6] 36)).alloc (.cells #[.func (.func N) #[] cap] 96)).alloc (.cells #[.int .i64 0, .bool false, .int .i64 0, .int .i64 0, .int .i64 0, .slice none 0 0, .slice none 0 0, .slice none 0 0, .slice none 0 0] 38) = W0 at *
 have hx1 := Box.at (uh HX) 1 _ rfl
 simp only [ga, gb, gc] at hx1
 have hxl := (uh HX).lt
 have hy := uh HY
 have r0 := Box.at hy 0 _ rfl
 have r1 := Box.at hy 1 _ rfl
 have r2 := Box.at hy 2 _ rfl
 have r3 := Box.at hy 3 _ rfl
 have r4 := Box.at hy 4 _ rfl
 have r5 := Box.at hy 5 _ rfl
 have r6 := Box.at hy 6 _ rfl
 have r7 := Box.at hy 7 _ rfl
 have r8 := Box.at hy 8 _ rfl
 simp only [ga, gb, gc] at r0 r1 r2 r3 r4 r5 r6 r7 r8
 have rf := Box.soft hy
 have rl := hy.lt
 have hy2 := box_set9W hy (.int .i64 0) (.bool false) (.int .i64 0) (.int .i64 0) (.int .i64 0) (.slice none 0 0) (.slice none 0 0) (.slice none 0 0) (.slice none 0 0)
 have e1 : Ext (fun q => q = w.heap.size + 1 + 1) W0 (setAll W0 (w.heap.size + 1 + 1) 0 [.int .i64 0, .bool false, .int .i64 0, .int .i64 0, .int .i64 0, .slice none 0 0, .slice none 0 0, .slice none 0 0, .slice none 0 0]) := ext_setAll _ (Ext.refl _ _) _ _ _ rfl
 have hb2 := below_setAll (uh HB) (w.heap.size + 1 + 1) 0 [.int .i64 0, .bool false, .int .i64 0, .int .i64 0, .int .i64 0, .slice none 0 0, .slice none 0 0, .slice none 0 0, .slice none 0 0] (by omega)
 have HR2 := yh (((uh HR).liesIn.mono (Nat.le_refl _) (Nat.le_refl _)).reads)
 have HQ := yh (put_ok (w.heap.size + 1 + 1) w.heap.size (w.heap.size + 1) N cap a3 d3 a4 d4 a5 d5 a6 d6 x c mv z _ hy2 ((uh HX).ext e1 (by omega)) ((uh HS).ext e1 (by omega)) (uh HFA) (HRD.later hb2) (uh HOK) (uh HF) (uh HC) (fun W hW g lo v3 v4 v5 v6 hL => uh HST W (hb2.trans (hW.mono hb2.size)) g lo v3 v4 v5 v6 (Nat.le_trans hb2.size hL)))
 have HB2 := yh hb2
 clear hy hy2 HY HB HR HR2 HX HS HST e1 hb2 HRD
 go_wp2_with fail
 refine leaves_cons (f := 136) (args := #[.pointer (some ⟨w.heap.size + 1 + 1, 0, none⟩), .pointer (some ⟨w.heap.size, 0, none⟩), .pointer (some ⟨w.heap.size + 1, 0, none⟩)]) (by simp) (by simp [go_sem]) ?_
 refine (uh HQ).mono ?_
 rintro e u' w2 ⟨rfl, rfl, cs, w1, lo, rfl, hl, hx, O, hlo, hb⟩
 obtain ⟨a5r, d5r, a6r, d6r, a7r, d7r, a8r, d8r, rfl, -⟩ := open_WorldResult O.reads
 rw [uh HRS]
 generalize resW c mv z = y at *
 have hy2 := box_set9W hx (.int .i64 y.code) (.bool y.moved) (.int .i64 y.world.now) (.int .i64 y.world.events) (.int .i64 y.world.chain.epoch) (.slice a5r y.world.chain.ids.length d5r) (.slice a6r y.world.nodes.length d6r) (.slice a7r y.world.msgs.length d7r) (.slice a8r y.world.history.length d8r)
 clear r0 r1 r2 r3 r4 r5 r6 r7 r8 rf rl
 have r0 := Box.at hy2 0 _ rfl
 have r1 := Box.at hy2 1 _ rfl
 have r2 := Box.at hy2 2 _ rfl
 have r3 := Box.at hy2 3 _ rfl
 have r4 := Box.at hy2 4 _ rfl
 have r5 := Box.at hy2 5 _ rfl
 have r6 := Box.at hy2 6 _ rfl
 have r7 := Box.at hy2 7 _ rfl
 have r8 := Box.at hy2 8 _ rfl
 simp only [ga, gb, gc] at r0 r1 r2 r3 r4 r5 r6 r7 r8
 have e2 : Ext (fun q => q = w.heap.size + 1 + 1) w1 (setAll w1 (w.heap.size + 1 + 1) 0 [.int .i64 y.code, .bool y.moved, .int .i64 y.world.now, .int .i64 y.world.events, .int .i64 y.world.chain.epoch, .slice a5r y.world.chain.ids.length d5r, .slice a6r y.world.nodes.length d6r, .slice a7r y.world.msgs.length d7r, .slice a8r y.world.history.length d8r]) := ext_setAll _ (Ext.refl _ _) _ _ _ rfl
 have hsz := (uh HB2).size
 have hO := (O.ext e2 (fun q h1 h2 h3 => by have := size_setAll W0 (w.heap.size + 1 + 1) 0 [.int .i64 0, .bool false, .int .i64 0, .int .i64 0, .int .i64 0, .slice none 0 0, .slice none 0 0, .slice none 0 0, .slice none 0 0]; omega))
 refine ⟨.agg #[.int .i64 y.code, .bool y.moved, .int .i64 y.world.now, .int .i64 y.world.events, .int .i64 y.world.chain.epoch, .slice a5r y.world.chain.ids.length d5r, .slice a6r y.world.nodes.length d6r, .slice a7r y.world.msgs.length d7r, .slice a8r y.world.history.length d8r], ?_, ?_⟩
 ·
  simp [results, Tryz.results70, go_sem, r0, r1, r2, r3, r4, r5, r6, r7, r8]
 exact ⟨[.int .i64 y.code, .bool y.moved, .int .i64 y.world.now, .int .i64 y.world.events, .int .i64 y.world.chain.epoch, .slice a5r y.world.chain.ids.length d5r, .slice a6r y.world.nodes.length d6r, .slice a7r y.world.msgs.length d7r, .slice a8r y.world.history.length d8r], rfl, hO.mono (by omega) (Nat.le_of_eq (size_setAll _ _ _ _).symm), below_setAll ((uh HB2).trans (hb.mono hsz)) (w.heap.size + 1 + 1) 0 [.int .i64 y.code, .bool y.moved, .int .i64 y.world.now, .int .i64 y.world.events, .int .i64 y.world.chain.epoch, .slice a5r y.world.chain.ids.length d5r, .slice a6r y.world.nodes.length d6r, .slice a7r y.world.msgs.length d7r, .slice a8r y.world.history.length d8r] (by omega)⟩
theorem nodeIn_at {x : DWorld} {id : Int} (h : nodeIn x id = true) : ∃ k, ∃ _ : k < x.nodes.length, id = (k : Int) + 1 := by
 simp only [nodeIn, Bool.and_eq_true, decide_eq_true_eq] at h
 exact ⟨(id - 1).toNat, by omega, by omega⟩
theorem nodeOf_at {x : DWorld} {k : Nat} (hk : k < x.nodes.length) : nodeOf x ((k : Int) + 1) = x.nodes[k] := by
 have : ((k : Int) + 1 - 1).toNat = k := by omega
 rw [nodeOf, this]
 simp [List.getD, hk]
theorem l12BadCZ (c : Int) (w : World) :
  Calls Tryz.prog 61 #[.int .i64 c] w fun e w' => e = .returned (.agg #[.int .i64 c, .bool false, .int .i64 0, .int .i64 0, .int .i64 0, .slice none 0 0, .slice none 0 0, .slice none 0 0, .slice none 0 0]) ∧ Below w.heap.size w w' := by
 have HB : Hid (∀ o, Below w.heap.size w (w.alloc o)) := fun o => (Below.refl _ _).alloc (Nat.le_refl _) o
 go_enter Tryz.func61, Tryz.ntmps61
 go_wp2_with fail
 refine bodyPost_ret (v := .agg #[.int .i64 c, .bool false, .int .i64 0, .int .i64 0, .int .i64 0, .slice none 0 0, .slice none 0 0, .slice none 0 0, .slice none 0 0]) (by simp [results, Tryz.results61, go_sem]) rfl ?_
 exact ⟨rfl, uh HB _⟩
theorem l12NextH (cs : List Value) (x : DWorld) (w : World) (h : Lay.tWorld.Reads w cs x) (hok : WorldOK x) (hf : Fits x) :
  Calls Tryz.prog 84 #[.agg cs.toArray] w fun e w' => ∃ cs', e = .returned (.agg cs'.toArray) ∧ WNewH w' w.heap.size w'.heap.size cs' (nextW x) ∧ Below w.heap.size w w' := by
 obtain ⟨a3, d3, a4, d4, a5, d5, a6, d6, rfl, -, -, -, -⟩ := open_World h
 have nb : Below w.heap.size w ((w.alloc (.cells #[.int .i64 x.now, .int .i64 x.events, .int .i64 x.chain.epoch, .slice a3 x.chain.ids.length d3, .slice a4 x.nodes.length d4, .slice a5 x.msgs.length d5, .slice a6 x.history.length d6] 36)).alloc (.cells #[.int .i64 0, .int .i64 0, .int .i64 0, .slice none 0 0, .slice none 0 0, .slice none 0 0, .slice none 0 0] 36)) := ((Below.refl _ _).alloc (Nat.le_refl _) _).alloc (by simp) _
 have HX : Hid (Box 0 #[.int .i64 x.now, .int .i64 x.events, .int .i64 x.chain.epoch, .slice a3 x.chain.ids.length d3, .slice a4 x.nodes.length d4, .slice a5 x.msgs.length d5, .slice a6 x.history.length d6] 36 ((w.alloc (.cells #[.int .i64 x.now, .int .i64 x.events, .int .i64 x.chain.epoch, .slice a3 x.chain.ids.length d3, .slice a4 x.nodes.length d4, .slice a5 x.msgs.length d5, .slice a6 x.history.length d6] 36)).alloc (.cells #[.int .i64 0, .int .i64 0, .int .i64 0, .slice none 0 0, .slice none 0 0, .slice none 0 0, .slice none 0 0] 36)) w.heap.size) := (newBox (Nat.zero_le _)).grow _
 have HY : Hid (Box 0 #[.int .i64 0, .int .i64 0, .int .i64 0, .slice none 0 0, .slice none 0 0, .slice none 0 0, .slice none 0 0] 36 ((w.alloc (.cells #[.int .i64 x.now, .int .i64 x.events, .int .i64 x.chain.epoch, .slice a3 x.chain.ids.length d3, .slice a4 x.nodes.length d4, .slice a5 x.msgs.length d5, .slice a6 x.history.length d6] 36)).alloc (.cells #[.int .i64 0, .int .i64 0, .int .i64 0, .slice none 0 0, .slice none 0 0, .slice none 0 0, .slice none 0 0] 36)) (w.heap.size + 1)) := newBoxAt (Nat.zero_le _) (by simp)
 have hz0 : ((w.alloc (.cells #[.int .i64 x.now, .int .i64 x.events, .int .i64 x.chain.epoch, .slice a3 x.chain.ids.length d3, .slice a4 x.nodes.length d4, .slice a5 x.msgs.length d5, .slice a6 x.history.length d6] 36)).alloc (.cells #[.int .i64 0, .int .i64 0, .int .i64 0, .slice none 0 0, .slice none 0 0, .slice none 0 0, .slice none 0 0] 36)).heap.size = w.heap.size + 2 := by simp
 have HL := yh (l12CopyH _ x _ (h.later nb) hok hf)
 have HB := yh nb
 have HEV := yh hok.events
 clear nb h hok hf
 go_enter Tryz.func84, Tryz.ntmps84
 go_upto_region 1 with fail
 generalize ((w.alloc (.cells #[.int .i64 x.now, .int .i64 x.events, .int .i64 x.chain.epoch, .slice a3 x.chain.ids.length d3, .slice a4 x.nodes.length d4, .slice a5 x.msgs.length d5, .slice a6 x.history.length d6] 36)).alloc (.cells #[.int .i64 0, .int .i64 0, .int .i64 0, .slice none 0 0, .slice none 0 0, .slice none 0 0, .slice none 0 0] 36)) = W0 at *
 have z0 := Box.at (uh HX) 0 _ rfl
 have z1 := Box.at (uh HX) 1 _ rfl
 have z2 := Box.at (uh HX) 2 _ rfl
 have z3 := Box.at (uh HX) 3 _ rfl
 have z4 := Box.at (uh HX) 4 _ rfl
 have z5 := Box.at (uh HX) 5 _ rfl
 have z6 := Box.at (uh HX) 6 _ rfl
 simp only [ga, gb, gc] at z0 z1 z2 z3 z4 z5 z6
 have zl := (uh HX).lt
 go_wp2_with fail
 refine (uh HL).mono ?_
 rintro e W1 ⟨cs', rfl, O, hb⟩
 obtain ⟨a3w, d3w, a4w, d4w, a5w, d5w, a6w, d6w, rfl, -⟩ := open_World O.reads
 have hz1 : W0.heap.size ≤ W1.heap.size := hb.size
 have nb : Below W1.heap.size W1 (W1.alloc (.cells #[.int .i64 x.now, .int .i64 x.events, .int .i64 x.chain.epoch, .slice a3w x.chain.ids.length d3w, .slice a4w x.nodes.length d4w, .slice a5w x.msgs.length d5w, .slice a6w x.history.length d6w] 36)) := (Below.refl _ _).alloc (Nat.le_refl _) _
 have HG : Hid (Box 0 #[.int .i64 x.now, .int .i64 x.events, .int .i64 x.chain.epoch, .slice a3w x.chain.ids.length d3w, .slice a4w x.nodes.length d4w, .slice a5w x.msgs.length d5w, .slice a6w x.history.length d6w] 36 (W1.alloc (.cells #[.int .i64 x.now, .int .i64 x.events, .int .i64 x.chain.epoch, .slice a3w x.chain.ids.length d3w, .slice a4w x.nodes.length d4w, .slice a5w x.msgs.length d5w, .slice a6w x.history.length d6w] 36)) W1.heap.size) := newBox (Nat.zero_le _)
 have HO := yh (O.later nb)
 replace HY := yh (((uh HY).keep hb).keep nb)
 replace HX := yh (((uh HX).keep hb).keep nb)
 replace HB := yh ((uh HB).trans ((hb.trans (nb.mono hb.size)).mono (uh HB).size))
 have hz2 : W1.heap.size < (W1.alloc (.cells #[.int .i64 x.now, .int .i64 x.events, .int .i64 x.chain.epoch, .slice a3w x.chain.ids.length d3w, .slice a4w x.nodes.length d4w, .slice a5w x.msgs.length d5w, .slice a6w x.history.length d6w] 36)).heap.size := by simp
 clear nb O hb HL z0 z1 z2 z3 z4 z5 z6 zl
 go_upto_region 2 with fail
 generalize W1.alloc (.cells #[.int .i64 x.now, .int .i64 x.events, .int .i64 x.chain.epoch, .slice a3w x.chain.ids.length d3w, .slice a4w x.nodes.length d4w, .slice a5w x.msgs.length d5w, .slice a6w x.history.length d6w] 36) = W2 at *
 have hx := uh HX
 have hg := uh HG
 have z1 := Box.at hx 1 _ rfl
 have y1 := Box.at hg 1 _ rfl
 simp only [ga, gb, gc] at z1 y1
 have zl := hx.lt
 have yl := hg.lt
 have yf := Box.soft hg
 have hev := uh HEV
 have hg2 := Box.set hg 1 (.int .i64 (x.events + 1))
 simp only [List.setIfInBounds_toArray, List.set_cons_zero, List.set_cons_succ] at hg2
 have e1 : Ext (fun q => q = W1.heap.size) W2 (W2.setCell ⟨W1.heap.size, 1, none⟩ (.int .i64 (x.events + 1))) := (Ext.refl _ _).setCell _ _ rfl
 have hO2 := ((uh HO).ext e1 (fun k h1 h2 h3 => by omega)).count x.now (x.events + 1) (wf_World (uh HO).reads).1 (wf_of_bd (by omega))
 replace HG := yh hg2
 replace HO := yh hO2
 replace HY := yh ((uh HY).ext e1 (by omega))
 replace HB := yh ((uh HB).setCell (p := ⟨W1.heap.size, 1, none⟩) (by simp; omega) (.int .i64 (x.events + 1)))
 have hz3 : W2.heap.size ≤ (W2.setCell ⟨W1.heap.size, 1, none⟩ (.int .i64 (x.events + 1))).heap.size := by simp
 clear hx hg hg2 e1 hO2 HX
 go_upto_region 3 with fail
 generalize hW : W2.setCell ⟨W1.heap.size, 1, none⟩ (.int .i64 (x.events + 1)) = W3 at *
 clear hW y1 yf yl z1 zl hev
 have y0 := Box.at (uh HG) 0 _ rfl
 have y1 := Box.at (uh HG) 1 _ rfl
 have y2 := Box.at (uh HG) 2 _ rfl
 have y3 := Box.at (uh HG) 3 _ rfl
 have y4 := Box.at (uh HG) 4 _ rfl
 have y5 := Box.at (uh HG) 5 _ rfl
 have y6 := Box.at (uh HG) 6 _ rfl
 simp only [ga, gb, gc] at y0 y1 y2 y3 y4 y5 y6
 have yl := (uh HG).lt
 have r0 := Box.at (uh HY) 0 _ rfl
 have r1 := Box.at (uh HY) 1 _ rfl
 have r2 := Box.at (uh HY) 2 _ rfl
 have r3 := Box.at (uh HY) 3 _ rfl
 have r4 := Box.at (uh HY) 4 _ rfl
 have r5 := Box.at (uh HY) 5 _ rfl
 have r6 := Box.at (uh HY) 6 _ rfl
 simp only [ga, gb, gc] at r0 r1 r2 r3 r4 r5 r6
 have rl := (uh HY).lt
 have rf := Box.soft (uh HY)
 have e9 : Ext (fun q => q = w.heap.size + 1) W3 (setAll W3 (w.heap.size + 1) 0 [.int .i64 x.now, .int .i64 (x.events + 1), .int .i64 x.chain.epoch, .slice a3w x.chain.ids.length d3w, .slice a4w x.nodes.length d4w, .slice a5w x.msgs.length d5w, .slice a6w x.history.length d6w]) := ext_setAll _ (Ext.refl _ _) _ _ _ rfl
 have HO9 := yh (((uh HO).ext e9 (fun k h1 h2 h3 => by omega)).mono (show w.heap.size ≤ W0.heap.size by omega) (show W1.heap.size ≤ (setAll W3 (w.heap.size + 1) 0 [.int .i64 x.now, .int .i64 (x.events + 1), .int .i64 x.chain.epoch, .slice a3w x.chain.ids.length d3w, .slice a4w x.nodes.length d4w, .slice a5w x.msgs.length d5w, .slice a6w x.history.length d6w]).heap.size by rw [size_setAll]; omega))
 have HB9 := yh (below_setAll (uh HB) (w.heap.size + 1) 0 [.int .i64 x.now, .int .i64 (x.events + 1), .int .i64 x.chain.epoch, .slice a3w x.chain.ids.length d3w, .slice a4w x.nodes.length d4w, .slice a5w x.msgs.length d5w, .slice a6w x.history.length d6w] (by omega))
 clear e9 HO HG HY HB HEV
 go_wp2_with fail
 refine bodyPost_ret (v := .agg #[.int .i64 x.now, .int .i64 (x.events + 1), .int .i64 x.chain.epoch, .slice a3w x.chain.ids.length d3w, .slice a4w x.nodes.length d4w, .slice a5w x.msgs.length d5w, .slice a6w x.history.length d6w]) (by simp [results, Tryz.results84, go_sem, r0, r1, r2, r3, r4, r5, r6]) rfl ?_
 exact ⟨_, rfl, uh HO9, uh HB9⟩
theorem writes_few9 {ws : List DWrite} (h : ∀ x ∈ ws, wF x = 0) : cntAll Lay.tWrite.cnt ws ≤ 10 * ws.length := by
 induction ws with
 | nil => simp [cntAll]
 | cons x xs ih =>
  have h1 := ih fun y hy => h y (List.mem_cons_of_mem _ hy)
  have h2 : x.vec.length ≤ 3 := by
   obtain ⟨-, -, -, hk⟩ := writeFault_zero (h x (by simp))
   rcases hk with ⟨-, hv⟩ | ⟨-, hv⟩
   ·
    have := (vecFault_zero hv).1; omega
   rw [hv]; simp
  have h3 : Lay.tWrite.cnt x = x.vec.length + 4 := by
   have e : cntAll Lay.int.cnt x.vec = x.vec.length := by
    generalize x.vec = l
    induction l with
    | nil => rfl
    | cons y ys ihy => simp only [cntAll, List.length_cons, ihy]; show 1 + ys.length = _; omega
   show 1 + (1 + (cntAll Lay.int.cnt x.vec + (1 + 1))) = _
   omega
  simp only [cntAll, List.length_cons]
  omega
theorem ints_cnt (l : List Int) : cntAll Lay.int.cnt l = l.length := by
 induction l with
 | nil => rfl
 | cons y ys ih => simp only [cntAll, List.length_cons, ih]; show 1 + ys.length = _; omega
structure FewW (y : DWorld) : Prop where
 ids : y.chain.ids.length ≤ 1000
 len : y.nodes.length ≤ 1000
 nodes : ∀ n ∈ y.nodes, n.writes.length ≤ 1000 ∧ ∀ v ∈ n.writes, wF v = 0
 mlen : y.msgs.length ≤ 1000
 msgs : ∀ m ∈ y.msgs, m.write.vec.length ≤ 1000
 hist : cntAll Lay.tEntry.cnt y.history ≤ 20000000
theorem nodes_cnt {ns : List DNode} (h : ∀ n ∈ ns, n.writes.length ≤ 1000 ∧ ∀ v ∈ n.writes, wF v = 0) : cntAll Lay.tNode.cnt ns ≤ 10006 * ns.length := by
 induction ns with
 | nil => simp [cntAll]
 | cons n ns ih =>
  have h1 := ih fun m hm => h m (List.mem_cons_of_mem _ hm)
  obtain ⟨h2, h3⟩ := h n (by simp)
  have h4 := writes_few9 h3
  have h5 : Lay.tNode.cnt n = cntAll Lay.tWrite.cnt n.writes + 6 := by
   show 1 + (1 + (1 + (1 + (cntAll Lay.tWrite.cnt n.writes + (1 + 1))))) = _
   omega
  simp only [cntAll, List.length_cons]
  omega
theorem msg_vec9 {x : DMsg} (h : msgFault x = 0) : x.write.vec.length ≤ 3 := by
 unfold msgFault at h
 split at h
 ·
  simp at h
 rename_i h1
 split at h
 ·
  simp at h
 split at h
 ·
  rename_i h3
  have h4 : noW x.write := Decidable.byContradiction fun q => h1 (Or.inr (Or.inr ⟨h3, q⟩))
  have := h4.2.2.2.2
  omega
 obtain ⟨-, -, -, hk⟩ := writeFault_zero h
 rcases hk with ⟨-, hv⟩ | ⟨-, hv⟩
 ·
  have := (vecFault_zero hv).1; omega
 rw [hv]; simp
theorem msgs_cnt {ms : List DMsg} (h : ∀ m ∈ ms, m.write.vec.length ≤ 1000) : cntAll Lay.tMsg.cnt ms ≤ 1009 * ms.length := by
 induction ms with
 | nil => simp [cntAll]
 | cons m ms ih =>
  have h1 := ih fun q hq => h q (List.mem_cons_of_mem _ hq)
  have h2 := h m (by simp)
  have h5 : Lay.tMsg.cnt m = m.write.vec.length + 9 := by
   show 1 + (1 + (1 + (1 + (1 + (1 + (1 + (cntAll Lay.int.cnt m.write.vec + (1 + 1)))))))) = _
   rw [ints_cnt]
   omega
  simp only [cntAll, List.length_cons]
  omega
theorem hits_cnt (hs : List DHit) : cntAll Lay.tHit.cnt hs = 2 * hs.length := by
 induction hs with
 | nil => rfl
 | cons y ys ih => simp only [cntAll, List.length_cons, ih]; show 1 + 1 + 2 * ys.length = _; omega
theorem entries_cnt (es : List DEntry) : cntAll Lay.tEntry.cnt es ≤ 8 * es.length + 2 * cntAll Lay.tEntry.sz es := by
 induction es with
 | nil => simp [cntAll]
 | cons e es ih =>
  have h1 : Lay.tEntry.cnt e = 8 + e.query.length + e.vec.length + 2 * e.hits.length := by
   show 1 + (1 + (1 + (1 + (cntAll Lay.int.cnt e.query + (1 + (1 + (1 + (1 + (cntAll Lay.int.cnt e.vec + cntAll Lay.tHit.cnt e.hits))))))))) = _
   rw [ints_cnt, ints_cnt, hits_cnt]
   omega
  have h2 : e.query.length + e.vec.length + e.hits.length ≤ Lay.tEntry.sz e := by
   show _ ≤ 0 + (0 + (0 + (0 + ((e.query.length + cntAll Lay.int.sz e.query) + (0 + (0 + (0 + (0 + ((e.vec.length + cntAll Lay.int.sz e.vec) + (e.hits.length + cntAll Lay.tHit.sz e.hits))))))))))
   omega
  simp only [cntAll, List.length_cons]
  omega
theorem few_of_ok {x : DWorld} (h : WorldOK x) (hs : Lay.tWorld.sz x ≤ 1048576) : FewW x := by
 have hx : Lay.tWorld.sz x = 0 + (0 + ((0 + (x.chain.ids.length + cntAll Lay.int.sz x.chain.ids)) + ((x.nodes.length + cntAll Lay.tNode.sz x.nodes) + ((x.msgs.length + cntAll Lay.tMsg.sz x.msgs) + (x.history.length + cntAll Lay.tEntry.sz x.history))))) := rfl
 have h1 := (chainFault_zero h.chain).len
 have h2 := entries_cnt x.history
 refine ⟨by omega, by have := h.some; omega, fun n hn => ?_, by have := (netFault_zero h.net).1; omega, fun m hm => ?_, by omega⟩
 ·
  obtain ⟨k, hk, rfl⟩ := List.getElem_of_mem hn
  have hok := nodeFault_zero (h.nodes k hk).1
  exact ⟨by have := hok.len; omega, hok.ws⟩
 have := msg_vec9 ((netFault_zero h.net).2 m hm)
 omega
theorem few_vcnt {y : DWorldResult} (h : FewW y.world) : Lay.tWorldResult.vcnt y ≤ 100000000 := by
 rw [vcnt_WorldResult, vcnt_World, vcnt_Chain]
 show cntAll Lay.int.cnt y.world.chain.ids + cntAll Lay.tNode.cnt y.world.nodes + cntAll Lay.tMsg.cnt y.world.msgs + cntAll Lay.tEntry.cnt y.world.history ≤ 100000000
 rw [ints_cnt]
 have h1 := nodes_cnt h.nodes
 have h2 := msgs_cnt h.msgs
 have h3 := h.ids
 have h4 := h.len
 have h5 := h.mlen
 have h6 := h.hist
 omega
theorem badW_few (c : Int) : Lay.tWorldResult.vcnt (badWorld c) ≤ 100000000 := few_vcnt ⟨by simp [badWorld, noWorld, noChain], by simp [badWorld, noWorld], by simp [badWorld, noWorld], by simp [badWorld, noWorld], by simp [badWorld, noWorld], by simp [badWorld, noWorld, cntAll]⟩
def asked13 (x : DWorld) : Int := if worldFault x ≠ 0 then worldFault x else if 9999 ≤ x.events then 2 else 0
theorem asked13_bd (x : DWorld) : -1000000000 ≤ asked13 x ∧ asked13 x ≤ 1000000000 := by
 have := wf_vals x
 unfold asked13
 split
 ·
  omega
 split <;> omega
theorem asked13_ok {x : DWorld} (h : asked13 x = 0) : worldFault x = 0 := by
 unfold asked13 at h
 split at h
 ·
  rename_i q; exact absurd h q
 rename_i q; simpa using q
theorem stepped13_eq (x : DWorld) (c : Int) (mv : Bool) (z : DWorld) : steppedR x (worldFault x) c mv z = if asked13 x ≠ 0 then badWorld (asked13 x) else resW c mv z := by
 unfold steppedR asked13
 by_cases h1 : worldFault x ≠ 0
 ·
  rw [if_pos h1, if_pos h1, if_pos h1]
 rw [if_neg h1, if_neg h1]
 by_cases h2 : 9999 ≤ x.events
 ·
  rw [if_pos h2, if_pos h2, if_pos (show ((2 : Int) ≠ 0) by omega)]
 rw [if_neg h2, if_neg h2, if_neg (show ¬ ((0 : Int) ≠ 0) by omega)]
theorem l13AskedC (a3 : Option Addr) (d3 : Nat) (a4 : Option Addr) (d4 : Nat) (a5 : Option Addr) (d5 : Nat) (a6 : Option Addr) (d6 : Nat) (x : DWorld) (xb : Nat) (w : World) (hX : Box 0 #[.int .i64 x.now, .int .i64 x.events, .int .i64 x.chain.epoch, .slice a3 x.chain.ids.length d3, .slice a4 x.nodes.length d4, .slice a5 x.msgs.length d5, .slice a6 x.history.length d6] 36 w xb) (h : Lay.tWorld.Reads w [.int .i64 x.now, .int .i64 x.events, .int .i64 x.chain.epoch, .slice a3 x.chain.ids.length d3, .slice a4 x.nodes.length d4, .slice a5 x.msgs.length d5, .slice a6 x.history.length d6] x) :
  Calls Tryz.prog 83 #[.pointer (some ⟨xb, 0, none⟩)] w fun e w' => e = .returned (.int .i64 (asked13 x)) ∧ Below w.heap.size w w' := by
 have HX := yh hX
 have HP : Hid (asked13 x = if worldFault x ≠ 0 then worldFault x else if 9999 ≤ x.events then 2 else 0) := rfl
 have HL := yh (l12FaultC a3 d3 a4 d4 a5 d5 a6 d6 x xb w hX h)
 clear hX h
 generalize asked13 x = r at *
 go_enter Tryz.func83, Tryz.ntmps83
 go_wp2_with fail
 refine (uh HL).mono ?_
 rintro e w2 ⟨rfl, hb⟩
 have hx := (uh HX).keep hb
 have HB := yh hb
 clear hb HL HX
 by_cases d1 : worldFault x ≠ 0
 ·
  have hd : (worldFault x != 0) = true := by simpa using d1
  replace HP := yh ((uh HP).trans (if_pos d1))
  clear d1 hx
  generalize worldFault x = c at *
  go_wp2_with fail
  go_ret
  exact ⟨by rw [uh HP]; rfl, uh HB⟩
 replace HP := yh ((uh HP).trans (if_neg d1))
 have hd : worldFault x = 0 := by simpa using d1
 clear d1
 rw [hd]
 clear hd
 have z1 := Box.at hx 1 _ rfl
 simp only [ga, gb, gc] at z1
 have xl := hx.lt
 clear hx
 by_cases he : 9999 ≤ x.events
 ·
  have hd : decide (9999 ≤ x.events) = true := by simpa using he
  replace HP := yh ((uh HP).trans (if_pos he))
  clear he
  go_wp2_with fail
  go_ret
  exact ⟨by rw [uh HP]; rfl, uh HB⟩
 have hd : decide (9999 ≤ x.events) = false := by simpa using he
 replace HP := yh ((uh HP).trans (if_neg he))
 clear he
 go_wp2_with fail
 go_ret
 exact ⟨by rw [uh HP]; rfl, uh HB⟩
def toldI (es : List DEntry) (s q : Int) : Nat := es.findIdx (toldB s q)
def toldP (es : List DEntry) (s q : Int) : Int := if toldI es s q < es.length then (toldI es s q : Int) else -1
theorem toldI_at {es : List DEntry} {s q : Int} {k : Nat} (hk : k < es.length) (h : toldB s q es[k] = true) (hb : ∀ j (hj : j < k), toldB s q es[j] = false) : toldI es s q = k := by
 unfold toldI
 rw [List.findIdx_eq hk]
 exact ⟨h, fun j hj => by simpa using hb j hj⟩
theorem toldP_at {es : List DEntry} {s q : Int} {k : Nat} (hk : k < es.length) (h : toldB s q es[k] = true) (hb : ∀ j (hj : j < es.length), j < k → toldB s q es[j] = false) : toldP es s q = (k : Int) := by
 rw [toldP, toldI_at hk h (fun j hj => hb j (by omega) hj), if_pos hk]
theorem toldP_none {es : List DEntry} {s q : Int} (hb : ∀ j (hj : j < es.length), toldB s q es[j] = false) : toldP es s q = -1 := by
 rw [toldP, if_neg]
 unfold toldI
 intro h
 obtain ⟨e, he, h2⟩ := List.findIdx_lt_length.1 h
 obtain ⟨j, hj, rfl⟩ := List.getElem_of_mem he
 rw [hb j hj] at h2
 exact absurd h2 (by decide)
theorem toldP_some {es : List DEntry} {s q : Int} (h : 0 ≤ toldP es s q) : ∃ (k : Nat) (_ : k < es.length), toldP es s q = (k : Int) ∧ toldI es s q = k := by
 unfold toldP at h ⊢
 by_cases c : toldI es s q < es.length
 ·
  rw [if_pos c]
  exact ⟨_, c, rfl, rfl⟩
 rw [if_neg c] at h
 omega
theorem toldB_false1 {s q : Int} {e : DEntry} (h : (e.kind == 1) = false) : toldB s q e = false := by simp [toldB, h]
theorem toldB_false2 {s q : Int} {e : DEntry} (h : (e.session == s) = false) : toldB s q e = false := by simp [toldB, h]
theorem toldB_false3 {s q : Int} {e : DEntry} (h : (e.seq == q) = false) : toldB s q e = false := by simp [toldB, h]
theorem toldB_true {s q : Int} {e : DEntry} (h : (e.kind == 1) = true) (h2 : (e.session == s) = true) (h3 : (e.seq == q) = true) : toldB s q e = true := by simp [toldB, h, h2, h3]
theorem opens_Hit : Opens Lay.tHit 297 := by
 intro H enc W base spare held fuel cs x h
 obtain ⟨xs, n, _, _, hlen, hl, hfi⟩ := DataW.trod_struct Tryz.underlying297 h
 rw [show Tryz.prog.cellsOf 297 = 2 by kernel_rfl] at hlen
 match cs, hlen with
 | [c0, c1], _ =>
 match xs, hl with
 | [y0, y1], _ =>
 have z0 : Tryz.prog.cellsOf 2 = 1 := by kernel_rfl
 have f0 : DataW.trod enc Tryz.prog W base spare held n 2 (([c0, c1].drop 0).take (Tryz.prog.cellsOf 2)) = some y0 := hfi 0 _ rfl
 rw [z0] at f0
 obtain ⟨d0, r0⟩ := (opens_int Tryz.underlying2) enc W base spare held n _ _ f0
 have f1 : DataW.trod enc Tryz.prog W base spare held n 2 (([c0, c1].drop 1).take (Tryz.prog.cellsOf 2)) = some y1 := hfi 1 _ rfl
 rw [z0] at f1
 obtain ⟨d1, r1⟩ := (opens_int Tryz.underlying2) enc W base spare held n _ _ f1
 exact ⟨⟨d0, d1⟩, (reads_pair r0 r1)⟩
theorem opens_Entry : Opens Lay.tEntry 156 := by
 intro H enc W base spare held fuel cs x h
 obtain ⟨xs, n, _, _, hlen, hl, hfi⟩ := DataW.trod_struct Tryz.underlying156 h
 rw [show Tryz.prog.cellsOf 156 = 11 by kernel_rfl] at hlen
 match cs, hlen with
 | [c0, c1, c2, c3, c4, c5, c6, c7, c8, c9, c10], _ =>
 match xs, hl with
 | [y0, y1, y2, y3, y4, y5, y6, y7, y8, y9, y10], _ =>
 have z0 : Tryz.prog.cellsOf 2 = 1 := by kernel_rfl
 have z1 : Tryz.prog.cellsOf 22 = 1 := by kernel_rfl
 have z2 : Tryz.prog.cellsOf 154 = 1 := by kernel_rfl
 have f0 : DataW.trod enc Tryz.prog W base spare held n 2 (([c0, c1, c2, c3, c4, c5, c6, c7, c8, c9, c10].drop 0).take (Tryz.prog.cellsOf 2)) = some y0 := hfi 0 _ rfl
 rw [z0] at f0
 obtain ⟨d0, r0⟩ := (opens_int Tryz.underlying2) enc W base spare held n _ _ f0
 have f1 : DataW.trod enc Tryz.prog W base spare held n 2 (([c0, c1, c2, c3, c4, c5, c6, c7, c8, c9, c10].drop 1).take (Tryz.prog.cellsOf 2)) = some y1 := hfi 1 _ rfl
 rw [z0] at f1
 obtain ⟨d1, r1⟩ := (opens_int Tryz.underlying2) enc W base spare held n _ _ f1
 have f2 : DataW.trod enc Tryz.prog W base spare held n 2 (([c0, c1, c2, c3, c4, c5, c6, c7, c8, c9, c10].drop 2).take (Tryz.prog.cellsOf 2)) = some y2 := hfi 2 _ rfl
 rw [z0] at f2
 obtain ⟨d2, r2⟩ := (opens_int Tryz.underlying2) enc W base spare held n _ _ f2
 have f3 : DataW.trod enc Tryz.prog W base spare held n 2 (([c0, c1, c2, c3, c4, c5, c6, c7, c8, c9, c10].drop 3).take (Tryz.prog.cellsOf 2)) = some y3 := hfi 3 _ rfl
 rw [z0] at f3
 obtain ⟨d3, r3⟩ := (opens_int Tryz.underlying2) enc W base spare held n _ _ f3
 have f4 : DataW.trod enc Tryz.prog W base spare held n 22 (([c0, c1, c2, c3, c4, c5, c6, c7, c8, c9, c10].drop 4).take (Tryz.prog.cellsOf 22)) = some y4 := hfi 4 _ rfl
 rw [z1] at f4
 obtain ⟨d4, r4⟩ := (opens_sl Tryz.underlying22 (by kernel_rfl) (by decide) (opens_int Tryz.underlying2)) enc W base spare held n _ _ f4
 have f5 : DataW.trod enc Tryz.prog W base spare held n 2 (([c0, c1, c2, c3, c4, c5, c6, c7, c8, c9, c10].drop 5).take (Tryz.prog.cellsOf 2)) = some y5 := hfi 5 _ rfl
 rw [z0] at f5
 obtain ⟨d5, r5⟩ := (opens_int Tryz.underlying2) enc W base spare held n _ _ f5
 have f6 : DataW.trod enc Tryz.prog W base spare held n 2 (([c0, c1, c2, c3, c4, c5, c6, c7, c8, c9, c10].drop 6).take (Tryz.prog.cellsOf 2)) = some y6 := hfi 6 _ rfl
 rw [z0] at f6
 obtain ⟨d6, r6⟩ := (opens_int Tryz.underlying2) enc W base spare held n _ _ f6
 have f7 : DataW.trod enc Tryz.prog W base spare held n 2 (([c0, c1, c2, c3, c4, c5, c6, c7, c8, c9, c10].drop 7).take (Tryz.prog.cellsOf 2)) = some y7 := hfi 7 _ rfl
 rw [z0] at f7
 obtain ⟨d7, r7⟩ := (opens_int Tryz.underlying2) enc W base spare held n _ _ f7
 have f8 : DataW.trod enc Tryz.prog W base spare held n 2 (([c0, c1, c2, c3, c4, c5, c6, c7, c8, c9, c10].drop 8).take (Tryz.prog.cellsOf 2)) = some y8 := hfi 8 _ rfl
 rw [z0] at f8
 obtain ⟨d8, r8⟩ := (opens_int Tryz.underlying2) enc W base spare held n _ _ f8
 have f9 : DataW.trod enc Tryz.prog W base spare held n 22 (([c0, c1, c2, c3, c4, c5, c6, c7, c8, c9, c10].drop 9).take (Tryz.prog.cellsOf 22)) = some y9 := hfi 9 _ rfl
 rw [z1] at f9
 obtain ⟨d9, r9⟩ := (opens_sl Tryz.underlying22 (by kernel_rfl) (by decide) (opens_int Tryz.underlying2)) enc W base spare held n _ _ f9
 have f10 : DataW.trod enc Tryz.prog W base spare held n 154 (([c0, c1, c2, c3, c4, c5, c6, c7, c8, c9, c10].drop 10).take (Tryz.prog.cellsOf 154)) = some y10 := hfi 10 _ rfl
 rw [z2] at f10
 obtain ⟨d10, r10⟩ := (opens_sl Tryz.underlying154 (by kernel_rfl) (by decide) opens_Hit) enc W base spare held n _ _ f10
 exact ⟨⟨d0, d1, d2, d3, d4, d5, d6, d7, d8, d9, d10⟩, (reads_pair r0 (reads_pair r1 (reads_pair r2 (reads_pair r3 (reads_pair r4 (reads_pair r5 (reads_pair r6 (reads_pair r7 (reads_pair r8 (reads_pair r9 r10))))))))))⟩
theorem opens_Chain : Opens Lay.tChain 24 := by
 intro H enc W base spare held fuel cs x h
 obtain ⟨xs, n, _, _, hlen, hl, hfi⟩ := DataW.trod_struct Tryz.underlying24 h
 rw [show Tryz.prog.cellsOf 24 = 2 by kernel_rfl] at hlen
 match cs, hlen with
 | [c0, c1], _ =>
 match xs, hl with
 | [y0, y1], _ =>
 have z0 : Tryz.prog.cellsOf 2 = 1 := by kernel_rfl
 have z1 : Tryz.prog.cellsOf 22 = 1 := by kernel_rfl
 have f0 : DataW.trod enc Tryz.prog W base spare held n 2 (([c0, c1].drop 0).take (Tryz.prog.cellsOf 2)) = some y0 := hfi 0 _ rfl
 rw [z0] at f0
 obtain ⟨d0, r0⟩ := (opens_int Tryz.underlying2) enc W base spare held n _ _ f0
 have f1 : DataW.trod enc Tryz.prog W base spare held n 22 (([c0, c1].drop 1).take (Tryz.prog.cellsOf 22)) = some y1 := hfi 1 _ rfl
 rw [z1] at f1
 obtain ⟨d1, r1⟩ := (opens_sl Tryz.underlying22 (by kernel_rfl) (by decide) (opens_int Tryz.underlying2)) enc W base spare held n _ _ f1
 exact ⟨⟨d0, d1⟩, (reads_pair r0 r1)⟩
theorem opens_Write : Opens Lay.tWrite 150 := by
 intro H enc W base spare held fuel cs x h
 obtain ⟨xs, n, _, _, hlen, hl, hfi⟩ := DataW.trod_struct Tryz.underlying150 h
 rw [show Tryz.prog.cellsOf 150 = 5 by kernel_rfl] at hlen
 match cs, hlen with
 | [c0, c1, c2, c3, c4], _ =>
 match xs, hl with
 | [y0, y1, y2, y3, y4], _ =>
 have z0 : Tryz.prog.cellsOf 2 = 1 := by kernel_rfl
 have z1 : Tryz.prog.cellsOf 22 = 1 := by kernel_rfl
 have f0 : DataW.trod enc Tryz.prog W base spare held n 2 (([c0, c1, c2, c3, c4].drop 0).take (Tryz.prog.cellsOf 2)) = some y0 := hfi 0 _ rfl
 rw [z0] at f0
 obtain ⟨d0, r0⟩ := (opens_int Tryz.underlying2) enc W base spare held n _ _ f0
 have f1 : DataW.trod enc Tryz.prog W base spare held n 2 (([c0, c1, c2, c3, c4].drop 1).take (Tryz.prog.cellsOf 2)) = some y1 := hfi 1 _ rfl
 rw [z0] at f1
 obtain ⟨d1, r1⟩ := (opens_int Tryz.underlying2) enc W base spare held n _ _ f1
 have f2 : DataW.trod enc Tryz.prog W base spare held n 22 (([c0, c1, c2, c3, c4].drop 2).take (Tryz.prog.cellsOf 22)) = some y2 := hfi 2 _ rfl
 rw [z1] at f2
 obtain ⟨d2, r2⟩ := (opens_sl Tryz.underlying22 (by kernel_rfl) (by decide) (opens_int Tryz.underlying2)) enc W base spare held n _ _ f2
 have f3 : DataW.trod enc Tryz.prog W base spare held n 2 (([c0, c1, c2, c3, c4].drop 3).take (Tryz.prog.cellsOf 2)) = some y3 := hfi 3 _ rfl
 rw [z0] at f3
 obtain ⟨d3, r3⟩ := (opens_int Tryz.underlying2) enc W base spare held n _ _ f3
 have f4 : DataW.trod enc Tryz.prog W base spare held n 2 (([c0, c1, c2, c3, c4].drop 4).take (Tryz.prog.cellsOf 2)) = some y4 := hfi 4 _ rfl
 rw [z0] at f4
 obtain ⟨d4, r4⟩ := (opens_int Tryz.underlying2) enc W base spare held n _ _ f4
 exact ⟨⟨d0, d1, d2, d3, d4⟩, (reads_pair r0 (reads_pair r1 (reads_pair r2 (reads_pair r3 r4))))⟩
theorem opens_Node : Opens Lay.tNode 148 := by
 intro H enc W base spare held fuel cs x h
 obtain ⟨xs, n, _, _, hlen, hl, hfi⟩ := DataW.trod_struct Tryz.underlying148 h
 rw [show Tryz.prog.cellsOf 148 = 7 by kernel_rfl] at hlen
 match cs, hlen with
 | [c0, c1, c2, c3, c4, c5, c6], _ =>
 match xs, hl with
 | [y0, y1, y2, y3, y4, y5, y6], _ =>
 have z0 : Tryz.prog.cellsOf 2 = 1 := by kernel_rfl
 have z1 : Tryz.prog.cellsOf 4 = 1 := by kernel_rfl
 have z2 : Tryz.prog.cellsOf 146 = 1 := by kernel_rfl
 have f0 : DataW.trod enc Tryz.prog W base spare held n 2 (([c0, c1, c2, c3, c4, c5, c6].drop 0).take (Tryz.prog.cellsOf 2)) = some y0 := hfi 0 _ rfl
 rw [z0] at f0
 obtain ⟨d0, r0⟩ := (opens_int Tryz.underlying2) enc W base spare held n _ _ f0
 have f1 : DataW.trod enc Tryz.prog W base spare held n 4 (([c0, c1, c2, c3, c4, c5, c6].drop 1).take (Tryz.prog.cellsOf 4)) = some y1 := hfi 1 _ rfl
 rw [z1] at f1
 obtain ⟨d1, r1⟩ := (opens_bool Tryz.underlying4) enc W base spare held n _ _ f1
 have f2 : DataW.trod enc Tryz.prog W base spare held n 2 (([c0, c1, c2, c3, c4, c5, c6].drop 2).take (Tryz.prog.cellsOf 2)) = some y2 := hfi 2 _ rfl
 rw [z0] at f2
 obtain ⟨d2, r2⟩ := (opens_int Tryz.underlying2) enc W base spare held n _ _ f2
 have f3 : DataW.trod enc Tryz.prog W base spare held n 2 (([c0, c1, c2, c3, c4, c5, c6].drop 3).take (Tryz.prog.cellsOf 2)) = some y3 := hfi 3 _ rfl
 rw [z0] at f3
 obtain ⟨d3, r3⟩ := (opens_int Tryz.underlying2) enc W base spare held n _ _ f3
 have f4 : DataW.trod enc Tryz.prog W base spare held n 146 (([c0, c1, c2, c3, c4, c5, c6].drop 4).take (Tryz.prog.cellsOf 146)) = some y4 := hfi 4 _ rfl
 rw [z2] at f4
 obtain ⟨d4, r4⟩ := (opens_sl Tryz.underlying146 (by kernel_rfl) (by decide) opens_Write) enc W base spare held n _ _ f4
 have f5 : DataW.trod enc Tryz.prog W base spare held n 2 (([c0, c1, c2, c3, c4, c5, c6].drop 5).take (Tryz.prog.cellsOf 2)) = some y5 := hfi 5 _ rfl
 rw [z0] at f5
 obtain ⟨d5, r5⟩ := (opens_int Tryz.underlying2) enc W base spare held n _ _ f5
 have f6 : DataW.trod enc Tryz.prog W base spare held n 2 (([c0, c1, c2, c3, c4, c5, c6].drop 6).take (Tryz.prog.cellsOf 2)) = some y6 := hfi 6 _ rfl
 rw [z0] at f6
 obtain ⟨d6, r6⟩ := (opens_int Tryz.underlying2) enc W base spare held n _ _ f6
 exact ⟨⟨d0, d1, d2, d3, d4, d5, d6⟩, (reads_pair r0 (reads_pair r1 (reads_pair r2 (reads_pair r3 (reads_pair r4 (reads_pair r5 r6))))))⟩
theorem opens_Msg : Opens Lay.tMsg 152 := by
 intro H enc W base spare held fuel cs x h
 obtain ⟨xs, n, _, _, hlen, hl, hfi⟩ := DataW.trod_struct Tryz.underlying152 h
 rw [show Tryz.prog.cellsOf 152 = 10 by kernel_rfl] at hlen
 match cs, hlen with
 | [c0, c1, c2, c3, c4, c5, c6, c7, c8, c9], _ =>
 match xs, hl with
 | [y0, y1, y2, y3, y4, y5], _ =>
 have z0 : Tryz.prog.cellsOf 2 = 1 := by kernel_rfl
 have z1 : Tryz.prog.cellsOf 150 = 5 := by kernel_rfl
 have f0 : DataW.trod enc Tryz.prog W base spare held n 2 (([c0, c1, c2, c3, c4, c5, c6, c7, c8, c9].drop 0).take (Tryz.prog.cellsOf 2)) = some y0 := hfi 0 _ rfl
 rw [z0] at f0
 obtain ⟨d0, r0⟩ := (opens_int Tryz.underlying2) enc W base spare held n _ _ f0
 have f1 : DataW.trod enc Tryz.prog W base spare held n 2 (([c0, c1, c2, c3, c4, c5, c6, c7, c8, c9].drop 1).take (Tryz.prog.cellsOf 2)) = some y1 := hfi 1 _ rfl
 rw [z0] at f1
 obtain ⟨d1, r1⟩ := (opens_int Tryz.underlying2) enc W base spare held n _ _ f1
 have f2 : DataW.trod enc Tryz.prog W base spare held n 2 (([c0, c1, c2, c3, c4, c5, c6, c7, c8, c9].drop 2).take (Tryz.prog.cellsOf 2)) = some y2 := hfi 2 _ rfl
 rw [z0] at f2
 obtain ⟨d2, r2⟩ := (opens_int Tryz.underlying2) enc W base spare held n _ _ f2
 have f3 : DataW.trod enc Tryz.prog W base spare held n 2 (([c0, c1, c2, c3, c4, c5, c6, c7, c8, c9].drop 3).take (Tryz.prog.cellsOf 2)) = some y3 := hfi 3 _ rfl
 rw [z0] at f3
 obtain ⟨d3, r3⟩ := (opens_int Tryz.underlying2) enc W base spare held n _ _ f3
 have f4 : DataW.trod enc Tryz.prog W base spare held n 2 (([c0, c1, c2, c3, c4, c5, c6, c7, c8, c9].drop 4).take (Tryz.prog.cellsOf 2)) = some y4 := hfi 4 _ rfl
 rw [z0] at f4
 obtain ⟨d4, r4⟩ := (opens_int Tryz.underlying2) enc W base spare held n _ _ f4
 have f5 : DataW.trod enc Tryz.prog W base spare held n 150 (([c0, c1, c2, c3, c4, c5, c6, c7, c8, c9].drop 5).take (Tryz.prog.cellsOf 150)) = some y5 := hfi 5 _ rfl
 rw [z1] at f5
 obtain ⟨d5, r5⟩ := (opens_Write) enc W base spare held n _ _ f5
 exact ⟨⟨d0, d1, d2, d3, d4, d5⟩, (reads_pair r0 (reads_pair r1 (reads_pair r2 (reads_pair r3 (reads_pair r4 r5)))))⟩
theorem opens_World : Opens Lay.tWorld 29 := by
 intro H enc W base spare held fuel cs x h
 obtain ⟨xs, n, _, _, hlen, hl, hfi⟩ := DataW.trod_struct Tryz.underlying29 h
 rw [show Tryz.prog.cellsOf 29 = 7 by kernel_rfl] at hlen
 match cs, hlen with
 | [c0, c1, c2, c3, c4, c5, c6], _ =>
 match xs, hl with
 | [y0, y1, y2, y3, y4, y5], _ =>
 have z0 : Tryz.prog.cellsOf 2 = 1 := by kernel_rfl
 have z1 : Tryz.prog.cellsOf 24 = 2 := by kernel_rfl
 have z2 : Tryz.prog.cellsOf 25 = 1 := by kernel_rfl
 have z3 : Tryz.prog.cellsOf 26 = 1 := by kernel_rfl
 have z4 : Tryz.prog.cellsOf 27 = 1 := by kernel_rfl
 have f0 : DataW.trod enc Tryz.prog W base spare held n 2 (([c0, c1, c2, c3, c4, c5, c6].drop 0).take (Tryz.prog.cellsOf 2)) = some y0 := hfi 0 _ rfl
 rw [z0] at f0
 obtain ⟨d0, r0⟩ := (opens_int Tryz.underlying2) enc W base spare held n _ _ f0
 have f1 : DataW.trod enc Tryz.prog W base spare held n 2 (([c0, c1, c2, c3, c4, c5, c6].drop 1).take (Tryz.prog.cellsOf 2)) = some y1 := hfi 1 _ rfl
 rw [z0] at f1
 obtain ⟨d1, r1⟩ := (opens_int Tryz.underlying2) enc W base spare held n _ _ f1
 have f2 : DataW.trod enc Tryz.prog W base spare held n 24 (([c0, c1, c2, c3, c4, c5, c6].drop 2).take (Tryz.prog.cellsOf 24)) = some y2 := hfi 2 _ rfl
 rw [z1] at f2
 obtain ⟨d2, r2⟩ := (opens_Chain) enc W base spare held n _ _ f2
 have f3 : DataW.trod enc Tryz.prog W base spare held n 25 (([c0, c1, c2, c3, c4, c5, c6].drop 4).take (Tryz.prog.cellsOf 25)) = some y3 := hfi 3 _ rfl
 rw [z2] at f3
 obtain ⟨d3, r3⟩ := (opens_sl Tryz.underlying25 (by kernel_rfl) (by decide) opens_Node) enc W base spare held n _ _ f3
 have f4 : DataW.trod enc Tryz.prog W base spare held n 26 (([c0, c1, c2, c3, c4, c5, c6].drop 5).take (Tryz.prog.cellsOf 26)) = some y4 := hfi 4 _ rfl
 rw [z3] at f4
 obtain ⟨d4, r4⟩ := (opens_sl Tryz.underlying26 (by kernel_rfl) (by decide) opens_Msg) enc W base spare held n _ _ f4
 have f5 : DataW.trod enc Tryz.prog W base spare held n 27 (([c0, c1, c2, c3, c4, c5, c6].drop 6).take (Tryz.prog.cellsOf 27)) = some y5 := hfi 5 _ rfl
 rw [z4] at f5
 obtain ⟨d5, r5⟩ := (opens_sl Tryz.underlying27 (by kernel_rfl) (by decide) opens_Entry) enc W base spare held n _ _ f5
 exact ⟨⟨d0, d1, d2, d3, d4, d5⟩, (reads_pair r0 (reads_pair r1 (reads_pair r2 (reads_pair r3 (reads_pair r4 r5)))))⟩
theorem l12ToldC (a3 : Option Addr) (d3 : Nat) (a4 : Option Addr) (d4 : Nat) (a5 : Option Addr) (d5 : Nat) (a6 : Option Addr) (d6 : Nat) (x : DWorld) (s q : Int) (xb : Nat) (w : World) (hX : Box 0 #[.int .i64 x.now, .int .i64 x.events, .int .i64 x.chain.epoch, .slice a3 x.chain.ids.length d3, .slice a4 x.nodes.length d4, .slice a5 x.msgs.length d5, .slice a6 x.history.length d6] 36 w xb) (h : Lay.tWorld.Reads w [.int .i64 x.now, .int .i64 x.events, .int .i64 x.chain.epoch, .slice a3 x.chain.ids.length d3, .slice a4 x.nodes.length d4, .slice a5 x.msgs.length d5, .slice a6 x.history.length d6] x) (hn : x.history.length ≤ 10000000) :
  Calls Tryz.prog 115 #[.pointer (some ⟨xb, 0, none⟩), .int .i64 s, .int .i64 q] w fun e w' => e = .returned (.int .i64 (toldP x.history s q)) ∧ w' = w := by
 obtain ⟨_, _, _, _, _, _, _, _, hq, -, -, -, RE⟩ := open_World h
 simp only [List.cons.injEq, Value.slice.injEq, and_true, true_and] at hq
 obtain ⟨-, -, -, ⟨rfl, rfl⟩⟩ := hq
 have H := yh RE
 have z5 := Box.at hX 6 _ rfl
 simp only [ga, gb, gc] at z5
 have zl := hX.lt
 clear h hX RE
 generalize x.history = es at *
 go_enter Tryz.func115, Tryz.ntmps115
 go_wp2_with fail
 go_loop [7] (fun i => ∃ k : Nat, k ≤ es.length ∧ i = .int .i64 k ∧ (∀ j (hj : j < es.length), j < k → toldB s q es[j] = false)) (fun i => es.length - (intOf i).toNat)
 case atStart => exact ⟨0, Nat.zero_le _, rfl, fun j _ hj => by omega⟩
 case round =>
  obtain ⟨k, hk, rfl, hz⟩ := hrel
  by_cases hlt : k < es.length
  ·
   obtain ⟨b, off, rfl, hbl⟩ := Lay.sl_addr (uh H) (by omega)
   obtain ⟨row, hc, hr⟩ := Lay.row_at (uh H) hlt
   obtain ⟨aq, dq, av, dv, ah, dh, rfl, -, -, -⟩ := open_Entry hr
   have hdl : decide ((k : Int) < (es.length : Int)) = true := by simp; omega
   have hc0 : w.cell? ⟨b, off + k * 11, none⟩ = some (.int .i64 (es[k]).kind) := hc 0 (by decide)
   have hc1 : w.cell? ⟨b, off + k * 11 + 1, none⟩ = some (.int .i64 (es[k]).session) := hc 1 (by decide)
   have hc2 : w.cell? ⟨b, off + k * 11 + 2, none⟩ = some (.int .i64 (es[k]).seq) := hc 2 (by decide)
   have HAT : Hid (toldB s q es[k] = true → toldP es s q = (k : Int)) := fun c => toldP_at hlt c (fun j hj hjk => hz j hj hjk)
   have HZ2 : Hid (toldB s q es[k] = false → ∀ j (hj : j < es.length), j < k + 1 → toldB s q es[j] = false) := fun c j hj hjk => by
    by_cases h2 : j < k
    ·
     exact hz j hj h2
    obtain rfl : j = k := by omega
    exact c
   clear hc hr hz
   generalize hx : es[k] = y at *
   clear hx
   have hwr : IntKind.i64.wrap ((k : Int) + 1) = (k : Int) + 1 := by rw [IntKind.wrap_i64]; omega
   cases h1 : (y.kind == 1)
   ·
    have HZ := yh (uh HZ2 (toldB_false1 h1))
    clear HAT HZ2
    go_wp2_with fail
    go_round
    case rel => exact ⟨k + 1, by omega, by go_num, uh HZ⟩
    case measure => simp [intOf]; omega
   cases h2 : (y.session == s)
   ·
    have HZ := yh (uh HZ2 (toldB_false2 h2))
    clear HAT HZ2
    go_wp2_with fail
    go_round
    case rel => exact ⟨k + 1, by omega, by go_num, uh HZ⟩
    case measure => simp [intOf]; omega
   cases h3 : (y.seq == q)
   ·
    have HZ := yh (uh HZ2 (toldB_false3 h3))
    clear HAT HZ2
    go_wp2_with fail
    go_round
    case rel => exact ⟨k + 1, by omega, by go_num, uh HZ⟩
    case measure => simp [intOf]; omega
   have HG := yh (uh HAT (toldB_true h1 h2 h3))
   clear HAT HZ2
   go_wp2_with fail
   go_ret
   exact ⟨by rw [uh HG]; rfl, rfl⟩
  obtain rfl : k = es.length := by omega
  have hdl : decide ((es.length : Int) < (es.length : Int)) = false := by simp
  have HG : Hid (toldP es s q = -1) := toldP_none fun j hj => hz j hj hj
  clear H hz
  go_wp2_with fail
  go_ret
  exact ⟨by rw [uh HG]; rfl, rfl⟩
def tailId (x : DWorld) : Int := x.chain.ids.getD (x.chain.ids.length - 1) 0
structure WorldMid (x : DWorld) : Prop where
 chain : chainFault x.chain = 0
 some : 1 ≤ x.nodes.length ∧ x.nodes.length ≤ 5
 nodes : ∀ k (h : k < x.nodes.length), nodeFault x.nodes[k] = 0 ∧ x.nodes[k].id = (k : Int) + 1 ∧ x.nodes[k].epoch ≤ x.chain.epoch
 ids : ∀ z ∈ x.chain.ids, nodeIn x z = true
theorem WorldOK.mid {x : DWorld} (h : WorldOK x) : WorldMid x := ⟨h.chain, h.some, h.nodes, h.ids⟩
theorem WorldMid.next {x : DWorld} (h : WorldMid x) : WorldMid (nextW x) := ⟨h.chain, h.some, h.nodes, h.ids⟩
theorem tail_at {x : DWorld} (h : WorldOK x) : ∃ (k : Nat) (_ : k < x.nodes.length), tailId x = (k : Int) + 1 := by
 have h1 := (chainFault_zero h.chain).len
 have hlt : x.chain.ids.length - 1 < x.chain.ids.length := by omega
 have e : tailId x = x.chain.ids[x.chain.ids.length - 1] := by
  unfold tailId
  generalize x.chain.ids.length - 1 = j at *
  simp [List.getD, hlt]
 have h2 := h.ids _ (List.getElem_mem hlt)
 rw [← e] at h2
 exact nodeIn_at h2
def sureWs (x : DWorld) : List DWrite := (nodeOf x (tailId x)).writes.take (nodeOf x (tailId x)).sure.toNat
def overE (e : DEntry) (f p : Int) : DEntry := ⟨e.kind, e.session, e.seq, e.id, e.query, e.k, e.start, f, p, e.vec, e.hits⟩
def setH (y : DWorld) (k : Nat) (e : DEntry) : DWorld := ⟨y.now, y.events, y.chain, y.nodes, y.msgs, y.history.set k e⟩
def noEntry : DEntry := ⟨0, 0, 0, 0, [], 0, 0, 0, 0, [], []⟩
def entryAt (y : DWorld) (s q : Int) : DEntry := y.history.getD (toldI y.history s q) noEntry
def finC (y : DWorld) (s q : Int) : Int := if toldP y.history s q < 0 then 4 else if (entryAt y s q).fin ≠ 0 then 6 else if seenI (sureWs y) s q = 0 then 8 else 0
def finished (y : DWorld) (s q : Int) : DWorld := setH y (toldI y.history s q) (overE (entryAt y s q) y.events (seenI (sureWs y) s q))
def finWR (x : DWorld) (s q : Int) : DWorldResult :=
 if asked13 x ≠ 0 then badWorld (asked13 x) else if toldP x.history s q < 0 then badWorld 4 else if (entryAt x s q).fin ≠ 0 then badWorld 6 else if seenI (sureWs x) s q = 0 then badWorld 8 else ⟨0, true, finished (nextW x) s q⟩
theorem finC_bd (y : DWorld) (s q : Int) : -1000000000 ≤ finC y s q ∧ finC y s q ≤ 1000000000 := by
 unfold finC
 split
 ·
  omega
 split
 ·
  omega
 split <;> omega
theorem finW_eq (x : DWorld) (s q : Int) : steppedR x (worldFault x) (finC (nextW x) s q) true (finished (nextW x) s q) = finWR x s q := by
 rw [stepped13_eq, finWR]
 by_cases h : asked13 x ≠ 0
 ·
  rw [if_pos h, if_pos h]
 rw [if_neg h, if_neg h]
 have e1 : finC (nextW x) s q = finC x s q := rfl
 rw [e1, finC]
 by_cases h1 : toldP x.history s q < 0
 ·
  rw [if_pos h1, if_pos h1]; exact if_neg (by decide)
 rw [if_neg h1, if_neg h1]
 by_cases h2 : (entryAt x s q).fin ≠ 0
 ·
  rw [if_pos h2, if_pos h2]; exact if_neg (by decide)
 rw [if_neg h2, if_neg h2]
 by_cases h3 : seenI (sureWs x) s q = 0
 ·
  rw [if_pos h3, if_pos h3]; exact if_neg (by decide)
 rw [if_neg h3, if_neg h3]; exact if_pos rfl
theorem seenI_someF {ws : List DWrite} {s q : Int} (h : seenI ws s q ≠ 0) : ∃ (j : Nat) (hj : j < ws.length), ws[j].session = s ∧ ws[j].seq = q := by
 refine Classical.byContradiction fun c => h (seenI_none fun j hj e => c ⟨j, hj, e⟩)
theorem seen_code {ws : List DWrite} {s q : Int} (hl : ws.length ≤ 200) (hw : ∀ v ∈ ws, wF v = 0) : (seenI ws s q = 0 → (seenR ws s q).code ≠ 0) ∧ (seenI ws s q ≠ 0 → seenR ws s q = ⟨0, ((seenI ws s q : Nat) : Int)⟩) := by
 have hf : writesF ws = 0 := by
  rw [writesF, if_neg (by omega)]
  exact wsFrom_all ws fun j hj => hw _ (List.getElem_mem hj)
 constructor
 ·
  intro h
  by_cases hs : 1 ≤ s ∧ s ≤ 9
  ·
   rw [seenR, if_pos (asked_ok hf hs)]
   by_cases hq : 1 ≤ q ∧ q ≤ 999
   ·
    rw [if_pos hq, if_pos h]; simp
   rw [if_neg hq]; simp
  rw [seenR, asked_out hf hs, if_neg (by decide)]; simp
 intro h
 obtain ⟨j, hj, h1, h2⟩ := seenI_someF h
 obtain ⟨-, hs, hq, -⟩ := writeFault_zero (hw _ (List.getElem_mem hj))
 rw [h1] at hs
 rw [h2] at hq
 rw [seenR, if_pos (asked_ok hf hs), if_pos hq, if_neg h]
theorem wnewh_over {W : World} {lo hi k : Nat} {v3 v4 v5 v6 : Value} {x : DWorld} (h : WNewH W lo hi [.int .i64 x.now, .int .i64 x.events, .int .i64 x.chain.epoch, v3, v4, v5, v6] x) (hk : k < x.history.length) (hl60 : x.history.length ≤ 1000000) :
  ∃ (b off cap : Nat) (aq : Option Addr) (dq : Nat) (av : Option Addr) (dv : Nat) (ah : Option Addr) (dh : Nat), v6 = .slice (some ⟨b, off, none⟩) x.history.length cap ∧ lo ≤ b ∧ b < hi ∧ b < W.heap.size ∧ RowAt W W b (off + k * 11) 11 [.int .i64 x.history[k].kind, .int .i64 x.history[k].session, .int .i64 x.history[k].seq, .int .i64 x.history[k].id, .slice aq x.history[k].query.length dq, .int .i64 x.history[k].k, .int .i64 x.history[k].start, .int .i64 x.history[k].fin, .int .i64 x.history[k].place, .slice av x.history[k].vec.length dv, .slice ah x.history[k].hits.length dh] [] ∧
   ∀ (W2 : World) (f p : Int), (Lit.int .i64 f).wf = true → (Lit.int .i64 p).wf = true → RowAt W W2 b (off + k * 11) 11 [.int .i64 x.history[k].kind, .int .i64 x.history[k].session, .int .i64 x.history[k].seq, .int .i64 x.history[k].id, .slice aq x.history[k].query.length dq, .int .i64 x.history[k].k, .int .i64 x.history[k].start, .int .i64 f, .int .i64 p, .slice av x.history[k].vec.length dv, .slice ah x.history[k].hits.length dh] [] → WNew W2 lo hi [.int .i64 x.now, .int .i64 x.events, .int .i64 x.chain.epoch, v3, v4, v5, v6] (setH x k (overE x.history[k] f p)) := by
 obtain ⟨⟨qa3, qd3, qb, qoff, qd4, qa5, qd5, qa6, qd6, ql3, qr, ql5, ql6⟩, H, rows, bls, hq, hl, hb, h3, hr, h5, h6, hH, hG, hB, hO⟩ := h
 dsimp only at hb h3 hr h5 h6 hG hO
 simp only [WBl.cells, List.cons.injEq, and_true, true_and] at hq
 obtain ⟨rfl, rfl, rfl, rfl⟩ := hq
 have hne : x.history ≠ [] := fun e => by rw [e] at hk; simp at hk
 rcases hG.form with ⟨-, e0⟩ | ⟨g, cap, ev, hg1, hg2, hg3⟩
 ·
  exact absurd e0 hne
 simp only [Value.slice.injEq, true_and] at ev
 obtain ⟨rfl, rfl⟩ := ev
 have hlie : (Lay.sl Lay.tEntry).lies W [.slice (some ⟨g, 0, none⟩) x.history.length qd6] x.history (g :: bls.flatten) := by
  rcases hG.reads (by omega) with h1 | ⟨h1, -⟩
  ·
   simpa only [if_neg hne] using h1
  exact absurd h1 hne
 have hgo := hO g rfl
 have hgn : g ∉ bls.flatten := fun hm => hG.off g hm rfl
 have hown := hG.own
 have hA : Lay.tEntry.Apart W (.slice (some ⟨g, 0, none⟩) x.history.length qd6) x.history g bls.flatten := ⟨hlie, hgn, fun o => hown.frozenAt o⟩
 obtain ⟨row0, hR0, blk0, hl0, hm0⟩ := hA.row hk
 obtain ⟨aq, dq, bq, av, dv, bv, ah, dh, bh, rfl, rfl, w0, w1, w2, w3, lq, w5, w6, w7, w8, lv, lh⟩ := lies_Entry.1 hl0
 refine ⟨g, 0, qd6, aq, dq, av, dv, ah, dh, rfl, by omega, hgo.2, hg2, hR0, fun W2 f p hf hp hR2 => ?_⟩
 have hE : Ext (fun c => c = g) W W2 := hR2.ext.mono (fun c _ e => by rcases e with e | e; exact e; cases e)
 have hni : ∀ c, c ∈ bq ++ (bv ++ bh) → c ≠ g := fun c hc e => hgn (e ▸ hm0 c hc)
 have key : ∀ {α : Type} {A : Lay α} {v : Value} {xs : List α} {bl : List Nat}, (Lay.sl A).lies W [v] xs bl → (∀ c ∈ bl, c ≠ g) → (Lay.sl A).lies W2 [v] xs bl := fun hli hn => (Lay.sl _).keep hli (fun c hc => hE.block c ((Lay.sl _).lt hli c hc) (hn c hc))
 have hL2 : Lay.tEntry.lies W2 [.int .i64 x.history[k].kind, .int .i64 x.history[k].session, .int .i64 x.history[k].seq, .int .i64 x.history[k].id, .slice aq x.history[k].query.length dq, .int .i64 x.history[k].k, .int .i64 x.history[k].start, .int .i64 f, .int .i64 p, .slice av x.history[k].vec.length dv, .slice ah x.history[k].hits.length dh] (overE x.history[k] f p) (bq ++ (bv ++ bh)) := lies_Entry.2 ⟨aq, dq, bq, av, dv, bv, ah, dh, bh, rfl, rfl, w0, w1, w2, w3, key lq (fun c hc => hni c (by simp [hc])), w5, w6, hf, hp, key lv (fun c hc => hni c (by simp [hc])), key lh (fun c hc => hni c (by simp [hc]))⟩
 obtain ⟨r', hA', hm', -⟩ := hA.put hk (x' := overE x.history[k] f p) hR2 hL2 (fun hc => hni g hc rfl)
 have hlen : (x.history.set k (overE x.history[k] f p)).length = x.history.length := List.length_set
 have hrb : ∀ c ∈ r', H ≤ c ∧ c < hi := fun c hc => by
  rcases hm' c hc with e | e
  ·
   exact hB c e
  exact hB c (hm0 c e)
 refine ⟨⟨qa3, qd3, qb, qoff, qd4, qa5, qd5, some ⟨g, 0, none⟩, qd6, ql3, qr, ql5, g :: r'⟩, by simp [WBl.cells, setH], ⟨hl.w0, hl.w1, hl.w2, key hl.i3 (fun c hc e => by have := h3 c hc; omega), hl.i4.ext hE (show ¬ qb = g by omega) (fun c hc e => by have := hr c hc; have e2 : c = g := e; omega), key hl.i5 (fun c hc e => by have := h5 c hc; omega), by show (Lay.sl Lay.tEntry).lies W2 [.slice (some ⟨g, 0, none⟩) (x.history.set k (overE x.history[k] f p)).length qd6] _ _; rw [hlen]; exact hA'.1, hl.n3, hl.n5, fun hc => ?_⟩, by show lo ≤ qb ∧ qb < hi; omega, fun c hc => by have := h3 c hc; omega, fun c hc => by have := hr c hc; omega, fun c hc => by have := h5 c hc; omega, fun c hc => ?_⟩
 ·
  have hc' : qb ∈ g :: r' := hc
  rcases List.mem_cons.1 hc' with e | e
  ·
   omega
  have := hrb _ e; omega
 have hc' : c ∈ g :: r' := hc
 rcases List.mem_cons.1 hc' with e | e
 ·
  omega
 have := hrb _ e; omega
theorem l13TailC (a3 : Option Addr) (d3 : Nat) (d4 : Nat) (a5 : Option Addr) (d5 : Nat) (a6 : Option Addr) (d6 : Nat) (b off k : Nat) (x : DWorld) (xb : Nat) (w : World) (hX : Box 0 #[.int .i64 x.now, .int .i64 x.events, .int .i64 x.chain.epoch, .slice a3 x.chain.ids.length d3, .slice (some ⟨b, off, none⟩) x.nodes.length d4, .slice a5 x.msgs.length d5, .slice a6 x.history.length d6] 36 w xb) (h : Lay.tWorld.Reads w [.int .i64 x.now, .int .i64 x.events, .int .i64 x.chain.epoch, .slice a3 x.chain.ids.length d3, .slice (some ⟨b, off, none⟩) x.nodes.length d4, .slice a5 x.msgs.length d5, .slice a6 x.history.length d6] x) (hok : WorldOK x) (hk : k < x.nodes.length) (ht : tailId x = (k : Int) + 1) :
  Calls Tryz.prog 92 #[.pointer (some ⟨xb, 0, none⟩)] w fun e w' => e = .returned (.pointer (some ⟨b, off + k * 7, none⟩)) ∧ Below w.heap.size w w' := by
 obtain ⟨_, _, _, _, _, _, _, _, hq, RC, RN, -, -⟩ := open_World h
 simp only [List.cons.injEq, Value.slice.injEq, and_true, true_and] at hq
 obtain ⟨⟨rfl, rfl⟩, ⟨rfl, rfl⟩, -, -, -⟩ := hq
 obtain ⟨_, _, hq, RI⟩ := open_Chain RC
 simp only [List.cons.injEq, Value.slice.injEq, and_true, true_and] at hq
 obtain ⟨rfl, rfl⟩ := hq
 have hl := (chainFault_zero hok.chain).len
 obtain ⟨n, hn⟩ : ∃ n, x.chain.ids.length = n + 1 := ⟨x.chain.ids.length - 1, by omega⟩
 obtain ⟨bi, oi, rfl, hbi⟩ := Lay.sl_addr RI (by omega)
 have hlt : n < x.chain.ids.length := by omega
 have c1 := int_cell RI hlt
 have hv : x.chain.ids[n] = (k : Int) + 1 := by
  rw [← ht]
  have e : x.chain.ids.length - 1 = n := by omega
  simp [tailId, e, List.getD, hlt]
 rw [hv] at c1
 have z3 := Box.at hX 3 _ rfl
 have z4 := Box.at hX 4 _ rfl
 simp only [ga, gb, gc] at z3 z4
 have zl := hX.lt
 have hn5 := hok.some
 have hw1 : IntKind.i64.wrap (k : Int) = (k : Int) := by
  rw [IntKind.wrap_i64]
  omega
 have hw2 : IntKind.i64.wrap (n : Int) = (n : Int) := by
  rw [IntKind.wrap_i64]
  omega
 have hw3 : IntKind.i64.wrap ((n : Int) + 1 - 1) = (n : Int) := by
  rw [IntKind.wrap_i64]
  omega
 have hki : (k : Int) < (x.nodes.length : Int) := by omega
 have hki0 : (0 : Int) ≤ (k : Int) := by omega
 have hni : (n : Int) < ((n + 1 : Nat) : Int) := by omega
 have hni0 : (0 : Int) ≤ (n : Int) := by omega
 have hns : ((n + 1 : Nat) : Int) - 1 = (n : Int) := by omega
 have HB := yh (Below.refl w.heap.size w)
 have HBD : Hid (∀ m, Below w.heap.size w (w.drewN m)) := fun m => below_drawn (Below.refl _ _) m
 rw [hn] at z3
 clear hX h RC RN RI hl hlt hv hok hn5 hn ht
 go_enter Tryz.func92, Tryz.ntmps92
 go_wp2_with fail
 go_quiet (fail)
 go_wp2_with fail
 go_ret
 exact ⟨rfl, uh HBD _⟩
theorem l5Seen_pos (b off cap : Nat) (ws : List DWrite) (s q : Int) (w : World) (h : (Lay.sl Lay.tWrite).Reads w [.slice (some ⟨b, off, none⟩) ws.length cap] ws)  (hn : ws.length ≤ 10000000) :
  Calls Tryz.prog 116 #[.slice (some ⟨b, off, none⟩) ws.length cap, .int .i64 s, .int .i64 q] w fun e w' => e = .returned (.int .i64 (seenI ws s q)) ∧ w' = w := by
 have H := yh h
 clear h
 go_enter Tryz.func116, Tryz.ntmps116
 go_wp2_with fail
 go_loop [7] (fun i => ∃ k : Nat, k ≤ ws.length ∧ i = .int .i64 k ∧ (∀ j (hj : j < ws.length), j < k → ¬ (ws[j].session = s ∧ ws[j].seq = q))) (fun i => ws.length - (intOf i).toNat)
 case atStart => exact ⟨0, Nat.zero_le _, rfl, fun j _ hj => by omega⟩
 case round =>
  obtain ⟨k, hk, rfl, hz⟩ := hrel
  by_cases hlt : k < ws.length
  ·
   obtain ⟨row, hc, hr⟩ := Lay.row_at (uh H) hlt
   obtain ⟨a2, d2, rfl, R2⟩ := open_Write hr
   have c3 : w.cell? ⟨b, off + k * 5 + 3, none⟩ = some (.int .i64 (ws[k]).session) := hc 3 (by decide)
   have c4 : w.cell? ⟨b, off + k * 5 + 4, none⟩ = some (.int .i64 (ws[k]).seq) := hc 4 (by decide)
   have HAT : Hid (ws[k].session = s ∧ ws[k].seq = q → seenI ws s q = k + 1) := fun he => seenI_at hlt hz he
   have HZ2 : Hid (¬ (ws[k].session = s ∧ ws[k].seq = q) → ∀ j (hj : j < ws.length), j < k + 1 → ¬ (ws[j].session = s ∧ ws[j].seq = q)) := by
    intro h0 j hj hjk
    by_cases hjk2 : j < k
    ·
     exact hz j hj hjk2
    obtain rfl : j = k := by omega
    exact h0
   clear hc hr R2 hz
   generalize hx : ws[k] = x at *
   clear hx
   have hwr : IntKind.i64.wrap ((k : Int) + 1) = (k : Int) + 1 := by rw [IntKind.wrap_i64]; omega
   by_cases hs : x.session = s
   ·
    have ds : (x.session == s) = true := by simpa using hs
    by_cases hq : x.seq = q
    ·
     have dq : (x.seq == q) = true := by simpa using hq
     have HG := yh (uh HAT ⟨hs, hq⟩)
     clear HAT HZ2 hs hq
     go_wp2_with fail
     go_ret
     exact ⟨by rw [uh HG]; simp, rfl⟩
    have dq : (x.seq == q) = false := by simpa using hq
    have HZ := yh (uh HZ2 fun e => hq e.2)
    clear HAT HZ2 hs hq hwr
    go_wp2_with fail
    go_round
    case rel => exact ⟨k + 1, by omega, by go_num, uh HZ⟩
    case measure => simp [intOf]; omega
   have ds : (x.session == s) = false := by simpa using hs
   have HZ := yh (uh HZ2 fun e => hs e.1)
   clear HAT HZ2 hs hwr
   go_wp2_with fail
   go_round
   case rel => exact ⟨k + 1, by omega, by go_num, uh HZ⟩
   case measure => simp [intOf]; omega
  obtain rfl : k = ws.length := by omega
  have HG : Hid (seenI ws s q = 0) := seenI_none fun j hj => hz j hj hj
  clear H hz
  go_wp2_with fail
  go_ret
  exact ⟨by rw [uh HG]; rfl, rfl⟩
theorem l5SeenC (v : Value) (ws : List DWrite) (s q : Int) (w : World) (h : (Lay.sl Lay.tWrite).Reads w [v] ws) (hn : ws.length ≤ 10000000) :
  Calls Tryz.prog 116 #[v, .int .i64 s, .int .i64 q] w fun e w' => e = .returned (.int .i64 (seenI ws s q)) ∧ w' = w := by
 obtain ⟨ao, cap, rfl⟩ := open_sl h
 by_cases hp : 0 < ws.length
 ·
  obtain ⟨b, off, rfl, -⟩ := Lay.sl_addr h hp
  exact l5Seen_pos b off cap ws s q w h hn
 obtain rfl : ws = [] := List.eq_nil_of_length_eq_zero (by omega)
 clear h hn hp
 go_enter Tryz.func116, Tryz.ntmps116
 go_wp2_with fail
 refine wp_loop_rounds 1 ?_
 rw [rounds_succ]
 go_wp2_with fail
 go_ret
 exact ⟨rfl, rfl⟩
end Go.Proofs.YtoanimpijfijgaaGreat
