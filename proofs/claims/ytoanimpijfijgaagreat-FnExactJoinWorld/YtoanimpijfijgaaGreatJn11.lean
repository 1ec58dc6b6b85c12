/-
  Texts of this proof in one: ImplStepped, FacePlain, SpecWA, SpecWNext, NodeFew, WorldFew, InstPlain, ImplMember, AskedPlain, CommPlain, RemPlain, JoinPlain, SpecInst, SpecNewC, OneInts, AppIntsAt, SpecJoinC, SpecComm, SpecMember.
  Their conditions stand in their theorems.
-/
import Derived.Test.YtoanimpijfijgaaGreatJn10
import Derived.Defers
import Derived.Recover
import Derived.Laws.Pointers
import Derived.Test.YtoanimpijfijgaaGreatJn00
import Derived.Test.YtoanimpijfijgaaGreatJn06
import Derived.Test.YtoanimpijfijgaaGreatJn08
import Derived.Test.YtoanimpijfijgaaGreatJn07
import Derived.Deep.CutRange
import Derived.Test.YtoanimpijfijgaaGreatJn03
import Derived.Test.YtoanimpijfijgaaGreatJn09
import Derived.Test.YtoanimpijfijgaaGreatJn05
import Derived.Deep.RegionHeld3
import Derived.Test.YtoanimpijfijgaaGreatChecked
import Derived.Test.YtoanimpijfijgaaGreatJn01
import Derived.Deep.QuietTactic
import Derived.BigQuiet
set_option maxRecDepth 100000
set_option maxHeartbeats 4000000
namespace Go.Proofs.YtoanimpijfijgaaGreat
open Go.RowKit
theorem box_set9W {lo : Nat} {T : TypeId} {W : World} {s : Nat} {c0 c1 c2 c3 c4 c5 c6 c7 c8 : Value} (h : Box lo #[c0, c1, c2, c3, c4, c5, c6, c7, c8] T W s) (v0 v1 v2 v3 v4 v5 v6 v7 v8 : Value) : Box lo #[v0, v1, v2, v3, v4, v5, v6, v7, v8] T (setAll W s 0 [v0, v1, v2, v3, v4, v5, v6, v7, v8]) s := by
 have q := (Box.set (Box.set (Box.set (Box.set (Box.set (Box.set (Box.set (Box.set (Box.set h 0 v0) 1 v1) 2 v2) 3 v3) 4 v4) 5 v5) 6 v6) 7 v7) 8 v8)
 simp only [List.setIfInBounds_toArray, List.set_cons_zero, List.set_cons_succ] at q
 exact q
theorem put_bad (p q s : Nat) (c : Int) (w : World) (hx : Box 0 #[.int .i64 c, .bool false, .int .i64 0, .int .i64 0, .int .i64 0, .slice none 0 0, .slice none 0 0, .slice none 0 0, .slice none 0 0] 38 w p) (hc : c ≠ 0) :
  CallsD Tryz.prog 136 #[.pointer (some ⟨p, 0, none⟩), .pointer (some ⟨q, 0, none⟩), .pointer (some ⟨s, 0, none⟩)] .returning w fun e u' w' => u' = .returning ∧ (e = .returned (.tuple #[]) ∧ w' = w) := by
 have r0 := Box.at hx 0 _ rfl
 simp only [List.getElem_toArray, List.getElem_cons_zero] at r0
 have hd : (c == 0) = false := by simpa using hc
 have rl := hx.lt
 clear hx hc
 refine CallsD.mono (R := fun e u' w' => u' = .returning ∧ (e = .returned (.tuple #[]) ∧ w' = w)) ?_ (fun _ _ _ q => q)
 go_enter_d Tryz.func136, Tryz.ntmps136
 go_wp2_with fail
 go_end0
 exact ⟨rfl, rfl⟩
theorem put_ok (p q s N : Nat) (cap : Array Value) (a3 : Option Addr) (d3 : Nat) (a4 : Option Addr) (d4 : Nat) (a5 : Option Addr) (d5 : Nat) (a6 : Option Addr) (d6 : Nat) (x : DWorld) (c : Int) (mv : Bool) (z : DWorld) (w : World) (hx : Box 0 #[.int .i64 0, .bool false, .int .i64 0, .int .i64 0, .int .i64 0, .slice none 0 0, .slice none 0 0, .slice none 0 0, .slice none 0 0] 38 w p) (hw : Box 0 #[.int .i64 x.now, .int .i64 x.events, .int .i64 x.chain.epoch, .slice a3 x.chain.ids.length d3, .slice a4 x.nodes.length d4, .slice a5 x.msgs.length d5, .slice a6 x.history.length d6] 36 w q) (hs : Box 0 #[.func (.func N) #[] cap] 96 w s)
  (hfa : ∀ (a : Array Value) (W : World), (callFunc N (a ++ cap)).run Tryz.prog W = .ok (.enter N (a ++ cap)) W) (h : Lay.tWorld.Reads w [.int .i64 x.now, .int .i64 x.events, .int .i64 x.chain.epoch, .slice a3 x.chain.ids.length d3, .slice a4 x.nodes.length d4, .slice a5 x.msgs.length d5, .slice a6 x.history.length d6] x) (hok : WorldOK x) (hf : Fits x) (hc : -1000000000 ≤ c ∧ c ≤ 1000000000) (hstep : ∀ W, Below w.heap.size w W → StepC w.heap.size N cap (nextW x) c mv z W) :
  CallsD Tryz.prog 136 #[.pointer (some ⟨p, 0, none⟩), .pointer (some ⟨q, 0, none⟩), .pointer (some ⟨s, 0, none⟩)] .returning w fun e u' w' => u' = .returning ∧ (e = .returned (.tuple #[]) ∧ ∃ cs w1 lo, w' = setAll w1 p 0 cs ∧ cs.length = 9 ∧ Box 0 #[.int .i64 0, .bool false, .int .i64 0, .int .i64 0, .int .i64 0, .slice none 0 0, .slice none 0 0, .slice none 0 0, .slice none 0 0] 38 w1 p ∧ Lay.tWorldResult.OwnIn w1 cs (resW c mv z) lo w1.heap.size ∧ w.heap.size ≤ lo ∧ Below w.heap.size w w1) := by
 have HL := yh (doneInC N cap _ x c mv z w hfa h hok hf hc hstep)
 have HX := yh hx
 have z0 := Box.at hw 0 _ rfl
 have z1 := Box.at hw 1 _ rfl
 have z2 := Box.at hw 2 _ rfl
 have z3 := Box.at hw 3 _ rfl
 have z4 := Box.at hw 4 _ rfl
 have z5 := Box.at hw 5 _ rfl
 have z6 := Box.at hw 6 _ rfl
 simp only [ga, gb, gc] at z0 z1 z2 z3 z4 z5 z6
 have s0 := Box.at hs 0 _ rfl
 have r0 := Box.at hx 0 _ rfl
 simp only [List.getElem_toArray, List.getElem_cons_zero] at s0 r0
 have zl := hw.lt
 have sl := hs.lt
 have rl := hx.lt
 clear hx hw hs h hok hf hstep hfa
 generalize resW c mv z = y at *
 go_enter_d Tryz.func136, Tryz.ntmps136
 go_wp2_with fail
 refine (uh HL).mono ?_
 rintro e w1 ⟨cs, rfl, O, hb⟩
 obtain ⟨a5, d5, a6, d6, a7, d7, a8, d8, rfl, -⟩ := open_WorldResult O.reads
 have hx := (uh HX).keep hb
 have HX1 := yh hx
 clear r0
 have r0 := Box.at hx 0 _ rfl
 have r1 := Box.at hx 1 _ rfl
 have r2 := Box.at hx 2 _ rfl
 have r3 := Box.at hx 3 _ rfl
 have r4 := Box.at hx 4 _ rfl
 have r5 := Box.at hx 5 _ rfl
 have r6 := Box.at hx 6 _ rfl
 have r7 := Box.at hx 7 _ rfl
 have r8 := Box.at hx 8 _ rfl
 simp only [ga, gb, gc] at r0 r1 r2 r3 r4 r5 r6 r7 r8
 have rf := Box.soft hx
 have HO := yh O
 have HB := yh hb
 have rl1 := hx.lt
 clear hx O hb HL HX s0 zl sl rl z0 z1 z2 z3 z4 z5 z6
 go_wp2_with fail
 go_end0
 exact ⟨rfl, [.int .i64 y.code, .bool y.moved, .int .i64 y.world.now, .int .i64 y.world.events, .int .i64 y.world.chain.epoch, .slice a5 y.world.chain.ids.length d5, .slice a6 y.world.nodes.length d6, .slice a7 y.world.msgs.length d7, .slice a8 y.world.history.length d8], w1, w.heap.size, rfl, rfl, uh HX1, uh HO, Nat.le_refl _, uh HB⟩
def steppedR (x : DWorld) (wrong c : Int) (mv : Bool) (z : DWorld) : DWorldResult := if wrong ≠ 0 then badWorld wrong else if 9999 ≤ x.events then badWorld 2 else resW c mv z
theorem steppedC (N : Nat) (cap : Array Value) (cs : List Value) (x : DWorld) (wrong c : Int) (mv : Bool) (z : DWorld) (w : World) (hfa : ∀ (a : Array Value) (W : World), (callFunc N (a ++ cap)).run Tryz.prog W = .ok (.enter N (a ++ cap)) W) (h : Lay.tWorld.Reads w cs x) (hok : wrong = 0 → WorldOK x) (hf : Fits x) (hc : -1000000000 ≤ c ∧ c ≤ 1000000000) (hwr : -1000000000 ≤ wrong ∧ wrong ≤ 1000000000)
  (hstep : wrong = 0 → ∀ W, Below w.heap.size w W → StepC w.heap.size N cap (nextW x) c mv z W) :
  Calls Tryz.prog 70 #[.agg cs.toArray, .int .i64 wrong, .func (.func N) #[] cap] w fun e w' => ∃ cs', e = .returned (.agg cs'.toArray) ∧ Lay.tWorldResult.OwnIn w' cs' (steppedR x wrong c mv z) w.heap.size w'.heap.size ∧ Below w.heap.size w w' := by
 have hmf : ∀ (fn : Fn) (first cap : Array Value) (w : World), (Instr.makeFunc fn first cap).run Tryz.prog w = .ok (.func fn first cap) w := fun _ _ _ _ => rfl
 obtain ⟨a3, d3, a4, d4, a5, d5, a6, d6, rfl, -, -, -, -⟩ := open_World h
 have nb : Below w.heap.size w (((w.alloc (.cells #[.int .i64 x.now, .int .i64 x.events, .int .i64 x.chain.epoch, .slice a3 x.chain.ids.length d3, .slice a4 x.nodes.length d4, .slice a5 x.msgs.length d5, .slice a6 x.history.length d6] 36)).alloc (.cells #[.func (.func N) #[] cap] 96)).alloc (.cells #[.int .i64 0, .bool false, .int .i64 0, .int .i64 0, .int .i64 0, .slice none 0 0, .slice none 0 0, .slice none 0 0, .slice none 0 0] 38)) := (((Below.refl _ _).alloc (Nat.le_refl _) _).alloc (by simp) _).alloc (by simp; omega) _
 have HX : Hid (Box 0 #[.int .i64 x.now, .int .i64 x.events, .int .i64 x.chain.epoch, .slice a3 x.chain.ids.length d3, .slice a4 x.nodes.length d4, .slice a5 x.msgs.length d5, .slice a6 x.history.length d6] 36 (((w.alloc (.cells #[.int .i64 x.now, .int .i64 x.events, .int .i64 x.chain.epoch, .slice a3 x.chain.ids.length d3, .slice a4 x.nodes.length d4, .slice a5 x.msgs.length d5, .slice a6 x.history.length d6] 36)).alloc (.cells #[.func (.func N) #[] cap] 96)).alloc (.cells #[.int .i64 0, .bool false, .int .i64 0, .int .i64 0, .int .i64 0, .slice none 0 0, .slice none 0 0, .slice none 0 0, .slice none 0 0] 38)) w.heap.size) := ((newBox (Nat.zero_le _)).grow _).grow _
 have HS : Hid (Box 0 #[.func (.func N) #[] cap] 96 (((w.alloc (.cells #[.int .i64 x.now, .int .i64 x.events, .int .i64 x.chain.epoch, .slice a3 x.chain.ids.length d3, .slice a4 x.nodes.length d4, .slice a5 x.msgs.length d5, .slice a6 x.history.length d6] 36)).alloc (.cells #[.func (.func N) #[] cap] 96)).alloc (.cells #[.int .i64 0, .bool false, .int .i64 0, .int .i64 0, .int .i64 0, .slice none 0 0, .slice none 0 0, .slice none 0 0, .slice none 0 0] 38)) (w.heap.size + 1)) := (newBoxAt (Nat.zero_le _) (by simp)).grow _
 have HY : Hid (Box 0 #[.int .i64 0, .bool false, .int .i64 0, .int .i64 0, .int .i64 0, .slice none 0 0, .slice none 0 0, .slice none 0 0, .slice none 0 0] 38 (((w.alloc (.cells #[.int .i64 x.now, .int .i64 x.events, .int .i64 x.chain.epoch, .slice a3 x.chain.ids.length d3, .slice a4 x.nodes.length d4, .slice a5 x.msgs.length d5, .slice a6 x.history.length d6] 36)).alloc (.cells #[.func (.func N) #[] cap] 96)).alloc (.cells #[.int .i64 0, .bool false, .int .i64 0, .int .i64 0, .int .i64 0, .slice none 0 0, .slice none 0 0, .slice none 0 0, .slice none 0 0] 38)) (w.heap.size + 1 + 1)) := newBoxAt (Nat.zero_le _) (by simp)
 have hz0 : (((w.alloc (.cells #[.int .i64 x.now, .int .i64 x.events, .int .i64 x.chain.epoch, .slice a3 x.chain.ids.length d3, .slice a4 x.nodes.length d4, .slice a5 x.msgs.length d5, .slice a6 x.history.length d6] 36)).alloc (.cells #[.func (.func N) #[] cap] 96)).alloc (.cells #[.int .i64 0, .bool false, .int .i64 0, .int .i64 0, .int .i64 0, .slice none 0 0, .slice none 0 0, .slice none 0 0, .slice none 0 0] 38)).heap.size = w.heap.size + 3 := by simp
 have HR := yh (h.later nb)
 have HRD := h
 have HB := yh nb
 clear nb h
 have HWR := yh hwr
 by_cases hw : wrong ≠ 0
 ·
  have hd : (wrong != 0) = true := by simpa using hw
  have HRS : Hid (steppedR x wrong c mv z = badWorld wrong) := if_pos hw
  have HW := yh hw
  clear hok hstep hfa hf hc hwr hw
  go_enter_defers Tryz.func70, Tryz.ntmps70
  go_upto_region 1 with fail
  generalize ((w.alloc (.cells #[.int .i64 x.now, .int .i64 x.events, .int .i64 x.chain.epoch, .slice a3 x.chain.ids.length d3, .slice a4 x.nodes.length d4, .slice a5 x.msgs.length d5, .slice a6 x.history.length d6] 36)).alloc (.cells #[.func (.func N) #[] cap] 96)).alloc (.cells #[.int .i64 0, .bool false, .int .i64 0, .int .i64 0, .int .i64 0, .slice none 0 0, .slice none 0 0, .slice none 0 0, .slice none 0 0] 38) = W0 at *
  have hy := uh HY
  have r0 := Box.at hy 0 _ rfl
  have r1 := Box.at hy 1 _ rfl
  have r2 := Box.at hy 2 _ rfl
  have r3 := Box.at hy 3 _ rfl
  have r4 := Box.at hy 4 _ rfl
  have r5 := Box.at hy 5 _ rfl
  have r6 := Box.at hy 6 _ rfl
  have r7 := Box.at hy 7 _ rfl
  have r8 := Box.at hy 8 _ rfl
  simp only [ga, gb, gc] at r0 r1 r2 r3 r4 r5 r6 r7 r8
  have rf := Box.soft hy
  have rl := hy.lt
  have hy2 := box_set9W hy (.int .i64 wrong) (.bool false) (.int .i64 0) (.int .i64 0) (.int .i64 0) (.slice none 0 0) (.slice none 0 0) (.slice none 0 0) (.slice none 0 0)
  have HQ := yh (put_bad (w.heap.size + 1 + 1) w.heap.size (w.heap.size + 1) wrong _ hy2 (uh HW))
  have HY2 := yh hy2
  have HB2 := yh (below_setAll (uh HB) (w.heap.size + 1 + 1) 0 [.int .i64 wrong, .bool false, .int .i64 0, .int .i64 0, .int .i64 0, .slice none 0 0, .slice none 0 0, .slice none 0 0, .slice none 0 0] (by omega))
  clear hy hy2 HY HB
  go_wp2_with fail
  refine leaves_cons (f := 136) (args := #[.pointer (some ⟨w.heap.size + 1 + 1, 0, none⟩), .pointer (some ⟨w.heap.size, 0, none⟩), .pointer (some ⟨w.heap.size + 1, 0, none⟩)]) (by simp) (by simp [go_sem]) ?_
  refine (uh HQ).mono ?_
  rintro e u' w2 ⟨rfl, rfl, rfl⟩
  have hy2 := uh HY2
  clear r0 r1 r2 r3 r4 r5 r6 r7 r8 rf rl
  have r0 := Box.at hy2 0 _ rfl
  have r1 := Box.at hy2 1 _ rfl
  have r2 := Box.at hy2 2 _ rfl
  have r3 := Box.at hy2 3 _ rfl
  have r4 := Box.at hy2 4 _ rfl
  have r5 := Box.at hy2 5 _ rfl
  have r6 := Box.at hy2 6 _ rfl
  have r7 := Box.at hy2 7 _ rfl
  have r8 := Box.at hy2 8 _ rfl
  simp only [ga, gb, gc] at r0 r1 r2 r3 r4 r5 r6 r7 r8
  refine ⟨.agg #[.int .i64 wrong, .bool false, .int .i64 0, .int .i64 0, .int .i64 0, .slice none 0 0, .slice none 0 0, .slice none 0 0, .slice none 0 0], ?_, ?_⟩
  ·
   simp [results, Tryz.results70, go_sem, r0, r1, r2, r3, r4, r5, r6, r7, r8]
  rw [uh HRS]
  exact ⟨[.int .i64 wrong, .bool false, .int .i64 0, .int .i64 0, .int .i64 0, .slice none 0 0, .slice none 0 0, .slice none 0 0, .slice none 0 0], rfl, own_badW (uh HWR) (uh HB2).size, uh HB2⟩
 have hw0 : wrong = 0 := by simpa using hw
 subst hw0
 by_cases he : 9999 ≤ x.events
 ·
  have hd : decide (9999 ≤ x.events) = true := by simpa using he
  have HRS : Hid (steppedR x 0 c mv z = badWorld 2) := by show steppedR x 0 c mv z = _; rw [steppedR, if_neg (by simp), if_pos he]
  clear hok hstep hfa hf hc hwr hw he
  go_enter_defers Tryz.func70, Tryz.ntmps70
  go_upto_region 1 with fail
  generalize ((w.alloc (.cells #[.int .i64 x.now, .int .i64 x.events, .int .i64 x.chain.epoch, .slice a3 x.chain.ids.length d3, .slice a4 x.nodes.length d4, .slice a5 x.msgs.length d5, .slice a6 x.history.length d6] 36)).alloc (.cells #[.func (.func N) #[] cap] 96)).alloc (.cells #[.int .i64 0, .bool false, .int .i64 0, .int .i64 0, .int .i64 0, .slice none 0 0, .slice none 0 0, .slice none 0 0, .slice none 0 0] 38) = W0 at *
  have hx1 := Box.at (uh HX) 1 _ rfl
  simp only [ga, gb, gc] at hx1
  have hxl := (uh HX).lt
  have hy := uh HY
  have r0 := Box.at hy 0 _ rfl
  have r1 := Box.at hy 1 _ rfl
  have r2 := Box.at hy 2 _ rfl
  have r3 := Box.at hy 3 _ rfl
  have r4 := Box.at hy 4 _ rfl
  have r5 := Box.at hy 5 _ rfl
  have r6 := Box.at hy 6 _ rfl
  have r7 := Box.at hy 7 _ rfl
  have r8 := Box.at hy 8 _ rfl
  simp only [ga, gb, gc] at r0 r1 r2 r3 r4 r5 r6 r7 r8
  have rf := Box.soft hy
  have rl := hy.lt
  have hy2 := box_set9W hy (.int .i64 2) (.bool false) (.int .i64 0) (.int .i64 0) (.int .i64 0) (.slice none 0 0) (.slice none 0 0) (.slice none 0 0) (.slice none 0 0)
  have HQ := yh (put_bad (w.heap.size + 1 + 1) w.heap.size (w.heap.size + 1) 2 _ hy2 (by decide))
  have HY2 := yh hy2
  have HB2 := yh (below_setAll (uh HB) (w.heap.size + 1 + 1) 0 [.int .i64 2, .bool false, .int .i64 0, .int .i64 0, .int .i64 0, .slice none 0 0, .slice none 0 0, .slice none 0 0, .slice none 0 0] (by omega))
  clear hy hy2 HY HB
  go_wp2_with fail
  refine leaves_cons (f := 136) (args := #[.pointer (some ⟨w.heap.size + 1 + 1, 0, none⟩), .pointer (some ⟨w.heap.size, 0, none⟩), .pointer (some ⟨w.heap.size + 1, 0, none⟩)]) (by simp) (by simp [go_sem]) ?_
  refine (uh HQ).mono ?_
  rintro e u' w2 ⟨rfl, rfl, rfl⟩
  have hy2 := uh HY2
  clear r0 r1 r2 r3 r4 r5 r6 r7 r8 rf rl
  have r0 := Box.at hy2 0 _ rfl
  have r1 := Box.at hy2 1 _ rfl
  have r2 := Box.at hy2 2 _ rfl
  have r3 := Box.at hy2 3 _ rfl
  have r4 := Box.at hy2 4 _ rfl
  have r5 := Box.at hy2 5 _ rfl
  have r6 := Box.at hy2 6 _ rfl
  have r7 := Box.at hy2 7 _ rfl
  have r8 := Box.at hy2 8 _ rfl
  simp only [ga, gb, gc] at r0 r1 r2 r3 r4 r5 r6 r7 r8
  refine ⟨.agg #[.int .i64 2, .bool false, .int .i64 0, .int .i64 0, .int .i64 0, .slice none 0 0, .slice none 0 0, .slice none 0 0, .slice none 0 0], ?_, ?_⟩
  ·
   simp [results, Tryz.results70, go_sem, r0, r1, r2, r3, r4, r5, r6, r7, r8]
  rw [uh HRS]
  exact ⟨[.int .i64 2, .bool false, .int .i64 0, .int .i64 0, .int .i64 0, .slice none 0 0, .slice none 0 0, .slice none 0 0, .slice none 0 0], rfl, own_badW (by decide) (uh HB2).size, uh HB2⟩
 have hd : decide (9999 ≤ x.events) = false := by simpa using he
 have HRS : Hid (steppedR x 0 c mv z = resW c mv z) := by show steppedR x 0 c mv z = _; rw [steppedR, if_neg (by simp), if_neg he]
 have HOK := yh (hok rfl)
 have HST := yh (hstep rfl)
 have HFA := yh hfa
 have HF := yh hf
 have HC := yh hc
 clear hok hstep hfa hf hc hwr hw he
 go_enter_defers Tryz.func70, Tryz.ntmps70
 go_upto_region 1 with fail
 generalize ((w.alloc (.cells #[.int .i64 x.now, .int .i64 x.events, .int .i64 x.chain.epoch, .slice a3 x.chain.ids.length d3, .slice a4 x.nodes.length d4, .slice a5 x.msgs.length d5, .slice a6 x.history.length d6] 36)).alloc (.cells #[.func (.func N) #[] cap] 96)).alloc (.cells #[.int .i64 0, .bool false, .int .i64 0, .int .i64 0, .int .i64 0, .slice none 0 0, .slice none 0 0, .slice none 0 0, .slice none 0 0] 38) = W0 at *
 have hx1 := Box.at (uh HX) 1 _ rfl
 simp only [ga, gb, gc] at hx1
 have hxl := (uh HX).lt
 have hy := uh HY
 have r0 := Box.at hy 0 _ rfl
 have r1 := Box.at hy 1 _ rfl
 have r2 := Box.at hy 2 _ rfl
 have r3 := Box.at hy 3 _ rfl
 have r4 := Box.at hy 4 _ rfl
 have r5 := Box.at hy 5 _ rfl
 have r6 := Box.at hy 6 _ rfl
 have r7 := Box.at hy 7 _ rfl
 have r8 := Box.at hy 8 _ rfl
 simp only [ga, gb, gc] at r0 r1 r2 r3 r4 r5 r6 r7 r8
 have rf := Box.soft hy
 have rl := hy.lt
 have hy2 := box_set9W hy (.int .i64 0) (.bool false) (.int .i64 0) (.int .i64 0) (.int .i64 0) (.slice none 0 0) (.slice none 0 0) (.slice none 0 0) (.slice none 0 0)
 have e1 : Ext (fun q => q = w.heap.size + 1 + 1) W0 (setAll W0 (w.heap.size + 1 + 1) 0 [.int .i64 0, .bool false, .int .i64 0, .int .i64 0, .int .i64 0, .slice none 0 0, .slice none 0 0, .slice none 0 0, .slice none 0 0]) := ext_setAll _ (Ext.refl _ _) _ _ _ rfl
 have hb2 := below_setAll (uh HB) (w.heap.size + 1 + 1) 0 [.int .i64 0, .bool false, .int .i64 0, .int .i64 0, .int .i64 0, .slice none 0 0, .slice none 0 0, .slice none 0 0, .slice none 0 0] (by omega)
 have HR2 := yh (((uh HR).liesIn.mono (Nat.le_refl _) (Nat.le_refl _)).reads)
 have HQ := yh (put_ok (w.heap.size + 1 + 1) w.heap.size (w.heap.size + 1) N cap a3 d3 a4 d4 a5 d5 a6 d6 x c mv z _ hy2 ((uh HX).ext e1 (by omega)) ((uh HS).ext e1 (by omega)) (uh HFA) (HRD.later hb2) (uh HOK) (uh HF) (uh HC) (fun W hW g lo v3 v4 v5 v6 hL => uh HST W (hb2.trans (hW.mono hb2.size)) g lo v3 v4 v5 v6 (Nat.le_trans hb2.size hL)))
 have HB2 := yh hb2
 clear hy hy2 HY HB HR HR2 HX HS HST e1 hb2 HRD
 go_wp2_with fail
 refine leaves_cons (f := 136) (args := #[.pointer (some ⟨w.heap.size + 1 + 1, 0, none⟩), .pointer (some ⟨w.heap.size, 0, none⟩), .pointer (some ⟨w.heap.size + 1, 0, none⟩)]) (by simp) (by simp [go_sem]) ?_
 refine (uh HQ).mono ?_
 rintro e u' w2 ⟨rfl, rfl, cs, w1, lo, rfl, hl, hx, O, hlo, hb⟩
 obtain ⟨a5r, d5r, a6r, d6r, a7r, d7r, a8r, d8r, rfl, -⟩ := open_WorldResult O.reads
 rw [uh HRS]
 generalize resW c mv z = y at *
 have hy2 := box_set9W hx (.int .i64 y.code) (.bool y.moved) (.int .i64 y.world.now) (.int .i64 y.world.events) (.int .i64 y.world.chain.epoch) (.slice a5r y.world.chain.ids.length d5r) (.slice a6r y.world.nodes.length d6r) (.slice a7r y.world.msgs.length d7r) (.slice a8r y.world.history.length d8r)
 clear r0 r1 r2 r3 r4 r5 r6 r7 r8 rf rl
 have r0 := Box.at hy2 0 _ rfl
 have r1 := Box.at hy2 1 _ rfl
 have r2 := Box.at hy2 2 _ rfl
 have r3 := Box.at hy2 3 _ rfl
 have r4 := Box.at hy2 4 _ rfl
 have r5 := Box.at hy2 5 _ rfl
 have r6 := Box.at hy2 6 _ rfl
 have r7 := Box.at hy2 7 _ rfl
 have r8 := Box.at hy2 8 _ rfl
 simp only [ga, gb, gc] at r0 r1 r2 r3 r4 r5 r6 r7 r8
 have e2 : Ext (fun q => q = w.heap.size + 1 + 1) w1 (setAll w1 (w.heap.size + 1 + 1) 0 [.int .i64 y.code, .bool y.moved, .int .i64 y.world.now, .int .i64 y.world.events, .int .i64 y.world.chain.epoch, .slice a5r y.world.chain.ids.length d5r, .slice a6r y.world.nodes.length d6r, .slice a7r y.world.msgs.length d7r, .slice a8r y.world.history.length d8r]) := ext_setAll _ (Ext.refl _ _) _ _ _ rfl
 have hsz := (uh HB2).size
 have hO := (O.ext e2 (fun q h1 h2 h3 => by have := size_setAll W0 (w.heap.size + 1 + 1) 0 [.int .i64 0, .bool false, .int .i64 0, .int .i64 0, .int .i64 0, .slice none 0 0, .slice none 0 0, .slice none 0 0, .slice none 0 0]; omega))
 refine ⟨.agg #[.int .i64 y.code, .bool y.moved, .int .i64 y.world.now, .int .i64 y.world.events, .int .i64 y.world.chain.epoch, .slice a5r y.world.chain.ids.length d5r, .slice a6r y.world.nodes.length d6r, .slice a7r y.world.msgs.length d7r, .slice a8r y.world.history.length d8r], ?_, ?_⟩
 ·
  simp [results, Tryz.results70, go_sem, r0, r1, r2, r3, r4, r5, r6, r7, r8]
 exact ⟨[.int .i64 y.code, .bool y.moved, .int .i64 y.world.now, .int .i64 y.world.events, .int .i64 y.world.chain.epoch, .slice a5r y.world.chain.ids.length d5r, .slice a6r y.world.nodes.length d6r, .slice a7r y.world.msgs.length d7r, .slice a8r y.world.history.length d8r], rfl, hO.mono (by omega) (Nat.le_of_eq (size_setAll _ _ _ _).symm), below_setAll ((uh HB2).trans (hb.mono hsz)) (w.heap.size + 1 + 1) 0 [.int .i64 y.code, .bool y.moved, .int .i64 y.world.now, .int .i64 y.world.events, .int .i64 y.world.chain.epoch, .slice a5r y.world.chain.ids.length d5r, .slice a6r y.world.nodes.length d6r, .slice a7r y.world.msgs.length d7r, .slice a8r y.world.history.length d8r] (by omega)⟩
theorem idFault_zero {x : DWorld} {id : Int} (h : idFaultR x id = 0) : worldFault x = 0 ∧ nodeIn x id = true := by
 unfold idFaultR at h
 split at h
 ·
  rename_i q; exact absurd h q
 rename_i q
 split at h
 ·
  simp at h
 rename_i q2
 exact ⟨by simpa using q, by simpa using q2⟩
theorem idFault_bd (x : DWorld) (id : Int) : -1000000000 ≤ idFaultR x id ∧ idFaultR x id ≤ 1000000000 := by
 have := wf_vals x
 unfold idFaultR
 split
 ·
  omega
 split <;> omega
theorem nodeIn_at {x : DWorld} {id : Int} (h : nodeIn x id = true) : ∃ k, ∃ _ : k < x.nodes.length, id = (k : Int) + 1 := by
 simp only [nodeIn, Bool.and_eq_true, decide_eq_true_eq] at h
 exact ⟨(id - 1).toNat, by omega, by omega⟩
theorem nodeOf_at {x : DWorld} {k : Nat} (hk : k < x.nodes.length) : nodeOf x ((k : Int) + 1) = x.nodes[k] := by
 have : ((k : Int) + 1 - 1).toNat = k := by omega
 rw [nodeOf, this]
 simp [List.getD, hk]
theorem askedW_eq (x : DWorld) (id : Int) : askedW x id = if idFaultR x id ≠ 0 then idFaultR x id else if 9999 ≤ x.events then 2 else 0 := by
 unfold askedW idFaultR
 by_cases h1 : worldFault x ≠ 0
 ·
  rw [if_pos h1, if_pos h1, if_pos h1]
 rw [if_neg h1, if_neg h1]
 by_cases h2 : nodeIn x id = false
 ·
  rw [if_pos h2, if_pos h2, if_pos (show ((4 : Int) ≠ 0) by omega)]
 rw [if_neg h2, if_neg h2, if_neg (show ¬ ((0 : Int) ≠ 0) by omega)]
theorem steppedR_eq (x : DWorld) (id c : Int) (mv : Bool) (z : DWorld) : steppedR x (idFaultR x id) c mv z = if askedW x id ≠ 0 then badWorld (askedW x id) else resW c mv z := by
 rw [askedW_eq, steppedR]
 by_cases h1 : idFaultR x id ≠ 0
 ·
  rw [if_pos h1, if_pos h1, if_pos h1]
 rw [if_neg h1, if_neg h1]
 by_cases h2 : 9999 ≤ x.events
 ·
  rw [if_pos h2, if_pos h2, if_pos (show ((2 : Int) ≠ 0) by omega)]
 rw [if_neg h2, if_neg h2, if_neg (show ¬ ((0 : Int) ≠ 0) by omega)]
theorem l12BadCZ (c : Int) (w : World) :
  Calls Tryz.prog 61 #[.int .i64 c] w fun e w' => e = .returned (.agg #[.int .i64 c, .bool false, .int .i64 0, .int .i64 0, .int .i64 0, .slice none 0 0, .slice none 0 0, .slice none 0 0, .slice none 0 0]) ∧ Below w.heap.size w w' := by
 have HB : Hid (∀ o, Below w.heap.size w (w.alloc o)) := fun o => (Below.refl _ _).alloc (Nat.le_refl _) o
 go_enter Tryz.func61, Tryz.ntmps61
 go_wp2_with fail
 refine bodyPost_ret (v := .agg #[.int .i64 c, .bool false, .int .i64 0, .int .i64 0, .int .i64 0, .slice none 0 0, .slice none 0 0, .slice none 0 0, .slice none 0 0]) (by simp [results, Tryz.results61, go_sem]) rfl ?_
 exact ⟨rfl, uh HB _⟩
theorem l12AskedC (a3 : Option Addr) (d3 : Nat) (a4 : Option Addr) (d4 : Nat) (a5 : Option Addr) (d5 : Nat) (a6 : Option Addr) (d6 : Nat) (x : DWorld) (id : Int) (xb : Nat) (w : World) (hX : Box 0 #[.int .i64 x.now, .int .i64 x.events, .int .i64 x.chain.epoch, .slice a3 x.chain.ids.length d3, .slice a4 x.nodes.length d4, .slice a5 x.msgs.length d5, .slice a6 x.history.length d6] 36 w xb) (h : Lay.tWorld.Reads w [.int .i64 x.now, .int .i64 x.events, .int .i64 x.chain.epoch, .slice a3 x.chain.ids.length d3, .slice a4 x.nodes.length d4, .slice a5 x.msgs.length d5, .slice a6 x.history.length d6] x) :
  Calls Tryz.prog 60 #[.pointer (some ⟨xb, 0, none⟩), .int .i64 id] w fun e w' => e = .returned (.int .i64 (askedW x id)) ∧ Below w.heap.size w w' := by
 have HX := yh hX
 have HP : Hid (askedW x id = if worldFault x ≠ 0 then worldFault x else if nodeIn x id = false then 4 else if 9999 ≤ x.events then 2 else 0) := rfl
 have HL := yh (l12FaultC a3 d3 a4 d4 a5 d5 a6 d6 x xb w hX h)
 clear hX h
 generalize askedW x id = r at *
 go_enter Tryz.func60, Tryz.ntmps60
 go_wp2_with fail
 refine (uh HL).mono ?_
 rintro e w2 ⟨rfl, hb⟩
 have hx := (uh HX).keep hb
 have HB := yh hb
 clear hb HL HX
 by_cases d1 : worldFault x ≠ 0
 ·
  have hd : (worldFault x != 0) = true := by simpa using d1
  replace HP := yh ((uh HP).trans (if_pos d1))
  clear d1 hx
  generalize worldFault x = c at *
  go_wp2_with fail
  go_ret
  exact ⟨by rw [uh HP]; rfl, uh HB⟩
 replace HP := yh ((uh HP).trans (if_neg d1))
 have hd : worldFault x = 0 := by simpa using d1
 clear d1
 rw [hd]
 clear hd
 have HL := yh (l12NodeC a3 d3 a4 d4 a5 d5 a6 d6 x id xb w2 hx)
 have z1 := Box.at hx 1 _ rfl
 simp only [ga, gb, gc] at z1
 have xl := hx.lt
 clear hx
 go_wp2_with fail
 refine (uh HL).mono ?_
 rintro e w3 ⟨rfl, h3⟩
 subst w3
 clear HL
 generalize nodeIn x id = q at *
 cases q
 ·
  replace HP := yh ((uh HP).trans (if_pos rfl))
  go_wp2_with fail
  go_ret
  exact ⟨by rw [uh HP]; rfl, uh HB⟩
 replace HP := yh ((uh HP).trans (if_neg (by simp)))
 by_cases he : 9999 ≤ x.events
 ·
  have hd : decide (9999 ≤ x.events) = true := by simpa using he
  replace HP := yh ((uh HP).trans (if_pos he))
  clear he
  go_wp2_with fail
  go_ret
  exact ⟨by rw [uh HP]; rfl, uh HB⟩
 have hd : decide (9999 ≤ x.events) = false := by simpa using he
 replace HP := yh ((uh HP).trans (if_neg he))
 clear he
 go_wp2_with fail
 go_ret
 exact ⟨by rw [uh HP]; rfl, uh HB⟩
theorem l12NextC (cs : List Value) (x : DWorld) (w : World) (h : Lay.tWorld.Reads w cs x) (hok : WorldOK x) (hf : Fits x) :
  Calls Tryz.prog 84 #[.agg cs.toArray] w fun e w' => ∃ cs', e = .returned (.agg cs'.toArray) ∧ WNew w' w.heap.size w'.heap.size cs' (nextW x) ∧ Below w.heap.size w w' := by
 obtain ⟨a3, d3, a4, d4, a5, d5, a6, d6, rfl, -, -, -, -⟩ := open_World h
 have nb : Below w.heap.size w ((w.alloc (.cells #[.int .i64 x.now, .int .i64 x.events, .int .i64 x.chain.epoch, .slice a3 x.chain.ids.length d3, .slice a4 x.nodes.length d4, .slice a5 x.msgs.length d5, .slice a6 x.history.length d6] 36)).alloc (.cells #[.int .i64 0, .int .i64 0, .int .i64 0, .slice none 0 0, .slice none 0 0, .slice none 0 0, .slice none 0 0] 36)) := ((Below.refl _ _).alloc (Nat.le_refl _) _).alloc (by simp) _
 have HX : Hid (Box 0 #[.int .i64 x.now, .int .i64 x.events, .int .i64 x.chain.epoch, .slice a3 x.chain.ids.length d3, .slice a4 x.nodes.length d4, .slice a5 x.msgs.length d5, .slice a6 x.history.length d6] 36 ((w.alloc (.cells #[.int .i64 x.now, .int .i64 x.events, .int .i64 x.chain.epoch, .slice a3 x.chain.ids.length d3, .slice a4 x.nodes.length d4, .slice a5 x.msgs.length d5, .slice a6 x.history.length d6] 36)).alloc (.cells #[.int .i64 0, .int .i64 0, .int .i64 0, .slice none 0 0, .slice none 0 0, .slice none 0 0, .slice none 0 0] 36)) w.heap.size) := (newBox (Nat.zero_le _)).grow _
 have HY : Hid (Box 0 #[.int .i64 0, .int .i64 0, .int .i64 0, .slice none 0 0, .slice none 0 0, .slice none 0 0, .slice none 0 0] 36 ((w.alloc (.cells #[.int .i64 x.now, .int .i64 x.events, .int .i64 x.chain.epoch, .slice a3 x.chain.ids.length d3, .slice a4 x.nodes.length d4, .slice a5 x.msgs.length d5, .slice a6 x.history.length d6] 36)).alloc (.cells #[.int .i64 0, .int .i64 0, .int .i64 0, .slice none 0 0, .slice none 0 0, .slice none 0 0, .slice none 0 0] 36)) (w.heap.size + 1)) := newBoxAt (Nat.zero_le _) (by simp)
 have hz0 : ((w.alloc (.cells #[.int .i64 x.now, .int .i64 x.events, .int .i64 x.chain.epoch, .slice a3 x.chain.ids.length d3, .slice a4 x.nodes.length d4, .slice a5 x.msgs.length d5, .slice a6 x.history.length d6] 36)).alloc (.cells #[.int .i64 0, .int .i64 0, .int .i64 0, .slice none 0 0, .slice none 0 0, .slice none 0 0, .slice none 0 0] 36)).heap.size = w.heap.size + 2 := by simp
 have HL := yh (l12CopyC _ x _ (h.later nb) hok hf)
 have HB := yh nb
 have HEV := yh hok.events
 clear nb h hok hf
 go_enter Tryz.func84, Tryz.ntmps84
 go_upto_region 1 with fail
 generalize ((w.alloc (.cells #[.int .i64 x.now, .int .i64 x.events, .int .i64 x.chain.epoch, .slice a3 x.chain.ids.length d3, .slice a4 x.nodes.length d4, .slice a5 x.msgs.length d5, .slice a6 x.history.length d6] 36)).alloc (.cells #[.int .i64 0, .int .i64 0, .int .i64 0, .slice none 0 0, .slice none 0 0, .slice none 0 0, .slice none 0 0] 36)) = W0 at *
 have z0 := Box.at (uh HX) 0 _ rfl
 have z1 := Box.at (uh HX) 1 _ rfl
 have z2 := Box.at (uh HX) 2 _ rfl
 have z3 := Box.at (uh HX) 3 _ rfl
 have z4 := Box.at (uh HX) 4 _ rfl
 have z5 := Box.at (uh HX) 5 _ rfl
 have z6 := Box.at (uh HX) 6 _ rfl
 simp only [ga, gb, gc] at z0 z1 z2 z3 z4 z5 z6
 have zl := (uh HX).lt
 go_wp2_with fail
 refine (uh HL).mono ?_
 rintro e W1 ⟨cs', rfl, O, hb⟩
 obtain ⟨a3w, d3w, a4w, d4w, a5w, d5w, a6w, d6w, rfl, -⟩ := open_World O.reads
 have hz1 : W0.heap.size ≤ W1.heap.size := hb.size
 have nb : Below W1.heap.size W1 (W1.alloc (.cells #[.int .i64 x.now, .int .i64 x.events, .int .i64 x.chain.epoch, .slice a3w x.chain.ids.length d3w, .slice a4w x.nodes.length d4w, .slice a5w x.msgs.length d5w, .slice a6w x.history.length d6w] 36)) := (Below.refl _ _).alloc (Nat.le_refl _) _
 have HG : Hid (Box 0 #[.int .i64 x.now, .int .i64 x.events, .int .i64 x.chain.epoch, .slice a3w x.chain.ids.length d3w, .slice a4w x.nodes.length d4w, .slice a5w x.msgs.length d5w, .slice a6w x.history.length d6w] 36 (W1.alloc (.cells #[.int .i64 x.now, .int .i64 x.events, .int .i64 x.chain.epoch, .slice a3w x.chain.ids.length d3w, .slice a4w x.nodes.length d4w, .slice a5w x.msgs.length d5w, .slice a6w x.history.length d6w] 36)) W1.heap.size) := newBox (Nat.zero_le _)
 have HO := yh (O.later nb)
 replace HY := yh (((uh HY).keep hb).keep nb)
 replace HX := yh (((uh HX).keep hb).keep nb)
 replace HB := yh ((uh HB).trans ((hb.trans (nb.mono hb.size)).mono (uh HB).size))
 have hz2 : W1.heap.size < (W1.alloc (.cells #[.int .i64 x.now, .int .i64 x.events, .int .i64 x.chain.epoch, .slice a3w x.chain.ids.length d3w, .slice a4w x.nodes.length d4w, .slice a5w x.msgs.length d5w, .slice a6w x.history.length d6w] 36)).heap.size := by simp
 clear nb O hb HL z0 z1 z2 z3 z4 z5 z6 zl
 go_upto_region 2 with fail
 generalize W1.alloc (.cells #[.int .i64 x.now, .int .i64 x.events, .int .i64 x.chain.epoch, .slice a3w x.chain.ids.length d3w, .slice a4w x.nodes.length d4w, .slice a5w x.msgs.length d5w, .slice a6w x.history.length d6w] 36) = W2 at *
 have hx := uh HX
 have hg := uh HG
 have z1 := Box.at hx 1 _ rfl
 have y1 := Box.at hg 1 _ rfl
 simp only [ga, gb, gc] at z1 y1
 have zl := hx.lt
 have yl := hg.lt
 have yf := Box.soft hg
 have hev := uh HEV
 have hg2 := Box.set hg 1 (.int .i64 (x.events + 1))
 simp only [List.setIfInBounds_toArray, List.set_cons_zero, List.set_cons_succ] at hg2
 have e1 : Ext (fun q => q = W1.heap.size) W2 (W2.setCell ⟨W1.heap.size, 1, none⟩ (.int .i64 (x.events + 1))) := (Ext.refl _ _).setCell _ _ rfl
 have hO2 := ((uh HO).ext e1 (fun k h1 h2 h3 => by omega)).count x.now (x.events + 1) (wf_World (uh HO).reads).1 (wf_of_bd (by omega))
 replace HG := yh hg2
 replace HO := yh hO2
 replace HY := yh ((uh HY).ext e1 (by omega))
 replace HB := yh ((uh HB).setCell (p := ⟨W1.heap.size, 1, none⟩) (by simp; omega) (.int .i64 (x.events + 1)))
 have hz3 : W2.heap.size ≤ (W2.setCell ⟨W1.heap.size, 1, none⟩ (.int .i64 (x.events + 1))).heap.size := by simp
 clear hx hg hg2 e1 hO2 HX
 go_upto_region 3 with fail
 generalize hW : W2.setCell ⟨W1.heap.size, 1, none⟩ (.int .i64 (x.events + 1)) = W3 at *
 clear hW y1 yf yl z1 zl hev
 have y0 := Box.at (uh HG) 0 _ rfl
 have y1 := Box.at (uh HG) 1 _ rfl
 have y2 := Box.at (uh HG) 2 _ rfl
 have y3 := Box.at (uh HG) 3 _ rfl
 have y4 := Box.at (uh HG) 4 _ rfl
 have y5 := Box.at (uh HG) 5 _ rfl
 have y6 := Box.at (uh HG) 6 _ rfl
 simp only [ga, gb, gc] at y0 y1 y2 y3 y4 y5 y6
 have yl := (uh HG).lt
 have r0 := Box.at (uh HY) 0 _ rfl
 have r1 := Box.at (uh HY) 1 _ rfl
 have r2 := Box.at (uh HY) 2 _ rfl
 have r3 := Box.at (uh HY) 3 _ rfl
 have r4 := Box.at (uh HY) 4 _ rfl
 have r5 := Box.at (uh HY) 5 _ rfl
 have r6 := Box.at (uh HY) 6 _ rfl
 simp only [ga, gb, gc] at r0 r1 r2 r3 r4 r5 r6
 have rl := (uh HY).lt
 have rf := Box.soft (uh HY)
 have e9 : Ext (fun q => q = w.heap.size + 1) W3 (setAll W3 (w.heap.size + 1) 0 [.int .i64 x.now, .int .i64 (x.events + 1), .int .i64 x.chain.epoch, .slice a3w x.chain.ids.length d3w, .slice a4w x.nodes.length d4w, .slice a5w x.msgs.length d5w, .slice a6w x.history.length d6w]) := ext_setAll _ (Ext.refl _ _) _ _ _ rfl
 have HO9 := yh (((uh HO).ext e9 (fun k h1 h2 h3 => by omega)).mono (show w.heap.size ≤ W0.heap.size by omega) (show W1.heap.size ≤ (setAll W3 (w.heap.size + 1) 0 [.int .i64 x.now, .int .i64 (x.events + 1), .int .i64 x.chain.epoch, .slice a3w x.chain.ids.length d3w, .slice a4w x.nodes.length d4w, .slice a5w x.msgs.length d5w, .slice a6w x.history.length d6w]).heap.size by rw [size_setAll]; omega))
 have HB9 := yh (below_setAll (uh HB) (w.heap.size + 1) 0 [.int .i64 x.now, .int .i64 (x.events + 1), .int .i64 x.chain.epoch, .slice a3w x.chain.ids.length d3w, .slice a4w x.nodes.length d4w, .slice a5w x.msgs.length d5w, .slice a6w x.history.length d6w] (by omega))
 clear e9 HO HG HY HB HEV
 go_wp2_with fail
 refine bodyPost_ret (v := .agg #[.int .i64 x.now, .int .i64 (x.events + 1), .int .i64 x.chain.epoch, .slice a3w x.chain.ids.length d3w, .slice a4w x.nodes.length d4w, .slice a5w x.msgs.length d5w, .slice a6w x.history.length d6w]) (by simp [results, Tryz.results84, go_sem, r0, r1, r2, r3, r4, r5, r6]) rfl ?_
 exact ⟨_, rfl, uh HO9, uh HB9⟩
theorem writes_few9 {ws : List DWrite} (h : ∀ x ∈ ws, wF x = 0) : cntAll Lay.tWrite.cnt ws ≤ 10 * ws.length := by
 induction ws with
 | nil => simp [cntAll]
 | cons x xs ih =>
  have h1 := ih fun y hy => h y (List.mem_cons_of_mem _ hy)
  have h2 : x.vec.length ≤ 3 := by
   obtain ⟨-, -, -, hk⟩ := writeFault_zero (h x (by simp))
   rcases hk with ⟨-, hv⟩ | ⟨-, hv⟩
   ·
    have := (vecFault_zero hv).1; omega
   rw [hv]; simp
  have h3 : Lay.tWrite.cnt x = x.vec.length + 4 := by
   have e : cntAll Lay.int.cnt x.vec = x.vec.length := by
    generalize x.vec = l
    induction l with
    | nil => rfl
    | cons y ys ihy => simp only [cntAll, List.length_cons, ihy]; show 1 + ys.length = _; omega
   show 1 + (1 + (cntAll Lay.int.cnt x.vec + (1 + 1))) = _
   omega
  simp only [cntAll, List.length_cons]
  omega
theorem ints_cnt (l : List Int) : cntAll Lay.int.cnt l = l.length := by
 induction l with
 | nil => rfl
 | cons y ys ih => simp only [cntAll, List.length_cons, ih]; show 1 + ys.length = _; omega
structure FewW (y : DWorld) : Prop where
 ids : y.chain.ids.length ≤ 1000
 len : y.nodes.length ≤ 1000
 nodes : ∀ n ∈ y.nodes, n.writes.length ≤ 1000 ∧ ∀ v ∈ n.writes, wF v = 0
 mlen : y.msgs.length ≤ 1000
 msgs : ∀ m ∈ y.msgs, m.write.vec.length ≤ 1000
 hist : cntAll Lay.tEntry.cnt y.history ≤ 20000000
theorem nodes_cnt {ns : List DNode} (h : ∀ n ∈ ns, n.writes.length ≤ 1000 ∧ ∀ v ∈ n.writes, wF v = 0) : cntAll Lay.tNode.cnt ns ≤ 10006 * ns.length := by
 induction ns with
 | nil => simp [cntAll]
 | cons n ns ih =>
  have h1 := ih fun m hm => h m (List.mem_cons_of_mem _ hm)
  obtain ⟨h2, h3⟩ := h n (by simp)
  have h4 := writes_few9 h3
  have h5 : Lay.tNode.cnt n = cntAll Lay.tWrite.cnt n.writes + 6 := by
   show 1 + (1 + (1 + (1 + (cntAll Lay.tWrite.cnt n.writes + (1 + 1))))) = _
   omega
  simp only [cntAll, List.length_cons]
  omega
theorem msg_vec9 {x : DMsg} (h : msgFault x = 0) : x.write.vec.length ≤ 3 := by
 unfold msgFault at h
 split at h
 ·
  simp at h
 rename_i h1
 split at h
 ·
  simp at h
 split at h
 ·
  rename_i h3
  have h4 : noW x.write := Decidable.byContradiction fun q => h1 (Or.inr (Or.inr ⟨h3, q⟩))
  have := h4.2.2.2.2
  omega
 obtain ⟨-, -, -, hk⟩ := writeFault_zero h
 rcases hk with ⟨-, hv⟩ | ⟨-, hv⟩
 ·
  have := (vecFault_zero hv).1; omega
 rw [hv]; simp
theorem msgs_cnt {ms : List DMsg} (h : ∀ m ∈ ms, m.write.vec.length ≤ 1000) : cntAll Lay.tMsg.cnt ms ≤ 1009 * ms.length := by
 induction ms with
 | nil => simp [cntAll]
 | cons m ms ih =>
  have h1 := ih fun q hq => h q (List.mem_cons_of_mem _ hq)
  have h2 := h m (by simp)
  have h5 : Lay.tMsg.cnt m = m.write.vec.length + 9 := by
   show 1 + (1 + (1 + (1 + (1 + (1 + (1 + (cntAll Lay.int.cnt m.write.vec + (1 + 1)))))))) = _
   rw [ints_cnt]
   omega
  simp only [cntAll, List.length_cons]
  omega
theorem hits_cnt (hs : List DHit) : cntAll Lay.tHit.cnt hs = 2 * hs.length := by
 induction hs with
 | nil => rfl
 | cons y ys ih => simp only [cntAll, List.length_cons, ih]; show 1 + 1 + 2 * ys.length = _; omega
theorem entries_cnt (es : List DEntry) : cntAll Lay.tEntry.cnt es ≤ 8 * es.length + 2 * cntAll Lay.tEntry.sz es := by
 induction es with
 | nil => simp [cntAll]
 | cons e es ih =>
  have h1 : Lay.tEntry.cnt e = 8 + e.query.length + e.vec.length + 2 * e.hits.length := by
   show 1 + (1 + (1 + (1 + (cntAll Lay.int.cnt e.query + (1 + (1 + (1 + (1 + (cntAll Lay.int.cnt e.vec + cntAll Lay.tHit.cnt e.hits))))))))) = _
   rw [ints_cnt, ints_cnt, hits_cnt]
   omega
  have h2 : e.query.length + e.vec.length + e.hits.length ≤ Lay.tEntry.sz e := by
   show _ ≤ 0 + (0 + (0 + (0 + ((e.query.length + cntAll Lay.int.sz e.query) + (0 + (0 + (0 + (0 + ((e.vec.length + cntAll Lay.int.sz e.vec) + (e.hits.length + cntAll Lay.tHit.sz e.hits))))))))))
   omega
  simp only [cntAll, List.length_cons]
  omega
theorem few_of_ok {x : DWorld} (h : WorldOK x) (hs : Lay.tWorld.sz x ≤ 1048576) : FewW x := by
 have hx : Lay.tWorld.sz x = 0 + (0 + ((0 + (x.chain.ids.length + cntAll Lay.int.sz x.chain.ids)) + ((x.nodes.length + cntAll Lay.tNode.sz x.nodes) + ((x.msgs.length + cntAll Lay.tMsg.sz x.msgs) + (x.history.length + cntAll Lay.tEntry.sz x.history))))) := rfl
 have h1 := (chainFault_zero h.chain).len
 have h2 := entries_cnt x.history
 refine ⟨by omega, by have := h.some; omega, fun n hn => ?_, by have := (netFault_zero h.net).1; omega, fun m hm => ?_, by omega⟩
 ·
  obtain ⟨k, hk, rfl⟩ := List.getElem_of_mem hn
  have hok := nodeFault_zero (h.nodes k hk).1
  exact ⟨by have := hok.len; omega, hok.ws⟩
 have := msg_vec9 ((netFault_zero h.net).2 m hm)
 omega
theorem few_vcnt {y : DWorldResult} (h : FewW y.world) : Lay.tWorldResult.vcnt y ≤ 100000000 := by
 rw [vcnt_WorldResult, vcnt_World, vcnt_Chain]
 show cntAll Lay.int.cnt y.world.chain.ids + cntAll Lay.tNode.cnt y.world.nodes + cntAll Lay.tMsg.cnt y.world.msgs + cntAll Lay.tEntry.cnt y.world.history ≤ 100000000
 rw [ints_cnt]
 have h1 := nodes_cnt h.nodes
 have h2 := msgs_cnt h.msgs
 have h3 := h.ids
 have h4 := h.len
 have h5 := h.mlen
 have h6 := h.hist
 omega
theorem badW_few (c : Int) : Lay.tWorldResult.vcnt (badWorld c) ≤ 100000000 := few_vcnt ⟨by simp [badWorld, noWorld, noChain], by simp [badWorld, noWorld], by simp [badWorld, noWorld], by simp [badWorld, noWorld], by simp [badWorld, noWorld], by simp [badWorld, noWorld, cntAll]⟩
theorem few_next {x : DWorld} (h : FewW x) : FewW (nextW x) := ⟨h.ids, h.len, h.nodes, h.mlen, h.msgs, h.hist⟩
theorem few_setN {y : DWorld} {k : Nat} {n : DNode} (h : FewW y) (hn : n.writes.length ≤ 1000 ∧ ∀ v ∈ n.writes, wF v = 0) : FewW (setN y k n) := by
 refine ⟨h.ids, by show (y.nodes.set k n).length ≤ 1000; simpa using h.len, fun m hm => ?_, h.mlen, h.msgs, h.hist⟩
 rcases List.mem_or_eq_of_mem_set hm with q | rfl
 ·
  exact h.nodes m q
 exact hn
theorem few_put {y : DWorld} {n : DNode} (h : FewW y) (hn : n.writes.length ≤ 1000 ∧ ∀ v ∈ n.writes, wF v = 0) : FewW (putNode y n) := few_setN (k := (n.id - 1).toNat) h hn
theorem nodeOf_ws {x : DWorld} (h : FewW x) (id : Int) : (nodeOf x id).writes.length ≤ 1000 ∧ ∀ v ∈ (nodeOf x id).writes, wF v = 0 := by
 by_cases hk : (id - 1).toNat < x.nodes.length
 ·
  have e : nodeOf x id = x.nodes[(id - 1).toNat] := by
   unfold nodeOf
   generalize (id - 1).toNat = j at *
   simp [List.getD, hk]
  rw [e]
  exact h.nodes _ (List.getElem_mem hk)
 have e : nodeOf x id = noNode := by
  unfold nodeOf
  generalize (id - 1).toNat = j at *
  simp [List.getD, List.getElem?_eq_none (by omega : x.nodes.length ≤ j)]
 rw [e]
 exact ⟨by simp [noNode], fun v hv => by simp [noNode] at hv⟩
def instP (ep : Int) (zs : List Int) (n : DNode) : DNode := if n.up = true ∧ n.id ∈ zs then ⟨n.id, n.up, ep, n.lease, n.writes, n.sure, n.clean⟩ else n
def instPW (y : DWorld) (zs : List Int) : DWorld := ⟨y.now, y.events, y.chain, y.nodes.map (instP y.chain.epoch zs), y.msgs, y.history⟩
def withChain (y : DWorld) (c : DChain) : DWorld := ⟨y.now, y.events, c, y.nodes, y.msgs, y.history⟩
def grantN (n : DNode) (ep : Int) : DNode := ⟨n.id, n.up, ep, n.lease, n.writes, n.sure, n.clean⟩
theorem instP_nil (ep : Int) (n : DNode) : instP ep [] n = n := if_neg (fun q => by simp at q)
theorem instPW_nil (y : DWorld) : instPW y [] = y := by
 have : y.nodes.map (instP y.chain.epoch []) = y.nodes := by
  have h : instP y.chain.epoch [] = id := funext (instP_nil _)
  rw [h, List.map_id]
 simp only [instPW, this]
theorem instP_up (ep : Int) (zs : List Int) (n : DNode) : (instP ep zs n).up = n.up ∧ (instP ep zs n).id = n.id ∧ (instP ep zs n).lease = n.lease ∧ (instP ep zs n).writes = n.writes ∧ ((instP ep zs n).epoch = n.epoch ∨ (instP ep zs n).epoch = ep) := by
 unfold instP
 split
 ·
  exact ⟨rfl, rfl, rfl, rfl, Or.inr rfl⟩
 exact ⟨rfl, rfl, rfl, rfl, Or.inl rfl⟩
theorem inst_set {ep : Int} {zs : List Int} {ns : List DNode} {k : Nat} (hk : k < ns.length) (hid : ∀ i (h : i < ns.length), ns[i].id = (i : Int) + 1) (hup : ns[k].up = true) :
  (ns.map (instP ep zs)).set k (grantN (instP ep zs ns[k]) ep) = ns.map (instP ep (zs ++ [(k : Int) + 1])) := by
 apply List.ext_getElem
 ·
  simp
 intro i h1 h2
 simp only [List.length_map] at h2
 rw [List.getElem_set]
 simp only [List.getElem_map]
 by_cases e : k = i
 ·
  subst e
  rw [if_pos rfl]
  have hi := hid k hk
  have hr : instP ep (zs ++ [(k : Int) + 1]) ns[k] = grantN ns[k] ep := if_pos ⟨hup, by rw [hi]; simp⟩
  rw [hr]
  unfold instP
  split <;> rfl
 rw [if_neg e]
 have hi := hid i h2
 have hne : ns[i].id ≠ (k : Int) + 1 := by rw [hi]; omega
 unfold instP
 simp only [List.mem_append, List.mem_singleton, hne, or_false]
theorem inst_skip {ep : Int} {zs : List Int} {ns : List DNode} {k : Nat} (hk : k < ns.length) (hid : ∀ i (h : i < ns.length), ns[i].id = (i : Int) + 1) (hup : ns[k].up = false) :
  ns.map (instP ep zs) = ns.map (instP ep (zs ++ [(k : Int) + 1])) := by
 apply List.ext_getElem
 ·
  simp
 intro i h1 h2
 simp only [List.length_map] at h2
 simp only [List.getElem_map]
 by_cases e : k = i
 ·
  subst e
  unfold instP
  simp [hup]
 have hi := hid i h2
 have hne : ns[i].id ≠ (k : Int) + 1 := by rw [hi]; omega
 unfold instP
 simp only [List.mem_append, List.mem_singleton, hne, or_false]
theorem instPW_set {y : DWorld} {zs : List Int} {k : Nat} (hk : k < y.nodes.length) (hid : ∀ i (h : i < y.nodes.length), y.nodes[i].id = (i : Int) + 1) (hup : y.nodes[k].up = true) :
  setN (instPW y zs) k (grantN (instP y.chain.epoch zs y.nodes[k]) y.chain.epoch) = instPW y (zs ++ [(k : Int) + 1]) := by
 simp only [setN, instPW]
 rw [inst_set hk hid hup]
theorem instPW_skip {y : DWorld} {zs : List Int} {k : Nat} (hk : k < y.nodes.length) (hid : ∀ i (h : i < y.nodes.length), y.nodes[i].id = (i : Int) + 1) (hup : y.nodes[k].up = false) :
  instPW y zs = instPW y (zs ++ [(k : Int) + 1]) := by
 simp only [instPW]
 rw [← inst_skip hk hid hup]
theorem few_inst {y : DWorld} {zs : List Int} (h : FewW y) : FewW (instPW y zs) := by
 refine ⟨h.ids, by show (y.nodes.map _).length ≤ _; rw [List.length_map]; exact h.len, fun n hn => ?_, h.mlen, h.msgs, h.hist⟩
 obtain ⟨m, hm, rfl⟩ := List.mem_map.1 hn
 rw [(instP_up _ _ m).2.2.2.1]
 exact h.nodes m hm
def memberW (x : DWorld) (id : Int) : Bool := decide (0 ≤ placeC x.chain.ids id) && ((nodeOf x id).up && (nodeOf x id).epoch == x.chain.epoch)
theorem memberW_eq (x : DWorld) (id : Int) : memberW x id = memberB x id := by
 unfold memberW memberB
 cases decide (0 ≤ placeC x.chain.ids id) <;> cases (nodeOf x id).up <;> simp
theorem isMemberC (cs : List Value) (x : DWorld) (id : Int) (w : World) (h : Lay.tWorld.Reads w cs x) (hi : ∀ z ∈ x.chain.ids, nodeIn x z = true) (hn5 : x.nodes.length ≤ 5) :
  Calls Tryz.prog 140 #[.agg cs.toArray, .int .i64 id] w fun e w' => e = .returned (.bool (memberW x id)) ∧ Below w.heap.size w w' := by
 obtain ⟨a3, d3, a4, d4, a5, d5, a6, d6, rfl, RC, RN, -, -⟩ := open_World h
 have nb : Below w.heap.size w (w.alloc (.cells #[.int .i64 x.now, .int .i64 x.events, .int .i64 x.chain.epoch, .slice a3 x.chain.ids.length d3, .slice a4 x.nodes.length d4, .slice a5 x.msgs.length d5, .slice a6 x.history.length d6] 36)) := (Below.refl _ _).alloc (Nat.le_refl _) _
 have HX : Hid (Box 0 #[.int .i64 x.now, .int .i64 x.events, .int .i64 x.chain.epoch, .slice a3 x.chain.ids.length d3, .slice a4 x.nodes.length d4, .slice a5 x.msgs.length d5, .slice a6 x.history.length d6] 36 (w.alloc (.cells #[.int .i64 x.now, .int .i64 x.events, .int .i64 x.chain.epoch, .slice a3 x.chain.ids.length d3, .slice a4 x.nodes.length d4, .slice a5 x.msgs.length d5, .slice a6 x.history.length d6] 36)) w.heap.size) := newBox (Nat.zero_le _)
 have HL := yh (isInChainC _ x.chain id _ (RC.later nb))
 have HRN := yh (RN.later nb)
 have HB := yh nb
 have HP : Hid (memberW x id = (decide (0 ≤ placeC x.chain.ids id) && ((nodeOf x id).up && (nodeOf x id).epoch == x.chain.epoch))) := rfl
 have HM : Hid (decide (0 ≤ placeC x.chain.ids id) = true → nodeIn x id = true) := fun q => hi id ((mem_place _ _).1 q)
 clear nb h RC RN hi
 generalize memberW x id = r at *
 generalize hq : decide (0 ≤ placeC x.chain.ids id) = q at *
 clear hq
 go_enter Tryz.func140, Tryz.ntmps140
 go_upto_region 1 with fail
 generalize w.alloc (.cells #[.int .i64 x.now, .int .i64 x.events, .int .i64 x.chain.epoch, .slice a3 x.chain.ids.length d3, .slice a4 x.nodes.length d4, .slice a5 x.msgs.length d5, .slice a6 x.history.length d6] 36) = w1 at *
 have z2 := Box.at (uh HX) 2 _ rfl
 have z3 := Box.at (uh HX) 3 _ rfl
 simp only [ga, gb, gc] at z2 z3
 have zl := (uh HX).lt
 go_wp2_with fail
 refine (uh HL).mono ?_
 rintro e w2 ⟨rfl, hb⟩
 replace HX := yh ((uh HX).keep hb)
 replace HRN := yh ((uh HRN).later hb)
 replace HB := yh ((uh HB).trans (hb.mono (uh HB).size))
 clear hb HL z2 z3 zl
 cases q
 ·
  go_wp2_with fail
  go_ret
  exact ⟨by rw [uh HP]; rfl, uh HB⟩
 obtain ⟨k, hk, rfl⟩ := nodeIn_at (uh HM rfl)
 rw [nodeOf_at hk] at HP
 obtain ⟨b, off, rfl, hbl⟩ := Lay.sl_addr (uh HRN) (by omega)
 obtain ⟨row, hcl, hr⟩ := Lay.row_at (uh HRN) hk
 obtain ⟨an, dn, rfl, -⟩ := open_Node hr
 have c0 : w2.cell? ⟨b, off + k * 7, none⟩ = some (.int .i64 (x.nodes[k]).id) := hcl 0 (by decide)
 have c1 : w2.cell? ⟨b, off + k * 7 + 1, none⟩ = some (.bool (x.nodes[k]).up) := hcl 1 (by decide)
 have c2 : w2.cell? ⟨b, off + k * 7 + 2, none⟩ = some (.int .i64 (x.nodes[k]).epoch) := hcl 2 (by decide)
 have c3 : w2.cell? ⟨b, off + k * 7 + 3, none⟩ = some (.int .i64 (x.nodes[k]).lease) := hcl 3 (by decide)
 have c4 : w2.cell? ⟨b, off + k * 7 + 4, none⟩ = some (.slice an (x.nodes[k]).writes.length dn) := hcl 4 (by decide)
 have c5 : w2.cell? ⟨b, off + k * 7 + 5, none⟩ = some (.int .i64 (x.nodes[k]).sure) := hcl 5 (by decide)
 have c6 : w2.cell? ⟨b, off + k * 7 + 6, none⟩ = some (.int .i64 (x.nodes[k]).clean) := hcl 6 (by decide)
 have hw1 : IntKind.i64.wrap (k : Int) = (k : Int) := by
  rw [IntKind.wrap_i64]
  omega
 have hki : (k : Int) < (x.nodes.length : Int) := by omega
 have z4 := Box.at (uh HX) 4 _ rfl
 have z2 := Box.at (uh HX) 2 _ rfl
 simp only [ga, gb, gc] at z4 z2
 have zl := (uh HX).lt
 clear hcl hr HRN HM HX
 generalize x.nodes[k] = n at *
 have nb : Below w2.heap.size w2 (w2.alloc (.cells #[.int .i64 n.id, .bool n.up, .int .i64 n.epoch, .int .i64 n.lease, .slice an n.writes.length dn, .int .i64 n.sure, .int .i64 n.clean] 84)) := (Below.refl _ _).alloc (Nat.le_refl _) _
 replace HB := yh ((uh HB).trans (nb.mono (uh HB).size))
 clear nb
 generalize hu : n.up = u at *
 clear hu
 generalize he : (n.epoch == x.chain.epoch) = v at *
 cases u
 ·
  go_wp2_with fail
  go_ret
  exact ⟨by rw [uh HP]; rfl, uh HB⟩
 cases v
 ·
  go_wp2_with fail
  go_ret
  exact ⟨by rw [uh HP]; rfl, uh HB⟩
 go_wp2_with fail
 go_ret
 exact ⟨by rw [uh HP]; rfl, uh HB⟩
theorem asked_zero {x : DWorld} {id : Int} (h : askedW x id = 0) : worldFault x = 0 ∧ nodeIn x id = true := by
 rw [askedW_eq] at h
 by_cases q : idFaultR x id ≠ 0
 ·
  rw [if_pos q] at h
  exact absurd h q
 exact idFault_zero (by simpa using q)
theorem asked_bd (x : DWorld) (id : Int) : -1000000000 ≤ askedW x id ∧ askedW x id ≤ 1000000000 := by
 have := idFault_bd x id
 rw [askedW_eq]
 split
 ·
  exact this
 split <;> omega
def tailId (x : DWorld) : Int := x.chain.ids.getD (x.chain.ids.length - 1) 0
theorem tail_at {x : DWorld} (h : WorldOK x) : ∃ (k : Nat) (_ : k < x.nodes.length), tailId x = (k : Int) + 1 := by
 have h1 := (chainFault_zero h.chain).len
 have hlt : x.chain.ids.length - 1 < x.chain.ids.length := by omega
 have e : tailId x = x.chain.ids[x.chain.ids.length - 1] := by
  unfold tailId
  generalize x.chain.ids.length - 1 = j at *
  simp [List.getD, hlt]
 have h2 := h.ids _ (List.getElem_mem hlt)
 rw [← e] at h2
 exact nodeIn_at h2
theorem own_chainR_parts {w : World} {cs : List Value} {r : DChainResult} {lo hi : Nat} (h : Lay.tChainResult.OwnIn w cs r lo hi) : ∃ (a : Option Addr) (m d : Nat), cs = [.int .i64 r.code, .int .i64 r.chain.epoch, .slice a m d] ∧ m = r.chain.ids.length ∧ (Lay.sl Lay.int).OwnIn w [.slice a m d] r.chain.ids lo hi ∧ (Lit.int .i64 r.chain.epoch).wf = true := by
 obtain ⟨bl, O, hb⟩ := h
 obtain ⟨a, d, g, rfl, rfl, Oc, -⟩ := own_ChainResult O
 obtain ⟨a', d', g', hq, rfl, Oi, hw⟩ := own_Chain Oc
 simp only [List.cons.injEq, Value.slice.injEq, true_and, and_true] at hq
 obtain ⟨rfl, rfl⟩ := hq
 exact ⟨a, _, d, rfl, rfl, ⟨_, Oi, hb⟩, hw⟩
def tookN (n t : DNode) : DNode := ⟨n.id, n.up, n.epoch, 0, t.writes.take t.sure.toNat, t.sure, t.sure⟩
def canJoin (y : DWorld) (id : Int) : Bool := (nodeOf y id).up && memberB y (tailId y)
def joinC (y : DWorld) (id : Int) : Int := if (joinR y.chain id).code ≠ 0 then (joinR y.chain id).code else if canJoin y id = true then 0 else 10
def joined (y : DWorld) (id : Int) : DWorld := instPW (withChain (putNode y (tookN (nodeOf y id) (nodeOf y (tailId y)))) (joinR y.chain id).chain) (joinR y.chain id).chain.ids
def joinWR (x : DWorld) (id : Int) : DWorldResult :=
 if askedW x id ≠ 0 then badWorld (askedW x id) else if (joinR x.chain id).code ≠ 0 then badWorld (joinR x.chain id).code else if canJoin x id = true then ⟨0, true, joined (nextW x) id⟩ else badWorld 10
theorem joinR_bd (c : DChain) (id : Int) : -1000000000 ≤ (joinR c id).code ∧ (joinR c id).code ≤ 1000000000 := by
 have := chainFault_bd c
 unfold joinR
 split
 ·
  split
  ·
   split
   ·
    simp [badChain]
   split
   ·
    simp [badChain]
   simp
  simp [badChain]
 simpa [badChain] using this
theorem joinR_ok {c : DChain} {id : Int} (hc : chainFault c = 0) (h : (joinR c id).code = 0) : (0 ≤ (joinR c id).chain.epoch ∧ (joinR c id).chain.epoch ≤ 999) ∧ (∀ z ∈ (joinR c id).chain.ids, z ∈ c.ids ∨ z = id) ∧ (joinR c id).chain.ids.length ≤ 1000 := by
 have hk := chainFault_zero hc
 unfold joinR at h ⊢
 rw [if_pos hc] at h ⊢
 split at h
 ·
  rename_i q1
  rw [if_pos q1]
  split at h
  ·
   simp [badChain] at h
  rename_i q2
  rw [if_neg q2]
  split at h
  ·
   simp [badChain] at h
  rename_i q3
  rw [if_neg q3]
  refine ⟨?_, fun z hz => ?_, ?_⟩
  ·
   show 0 ≤ c.epoch + 1 ∧ c.epoch + 1 ≤ 999
   have := hk.epoch
   omega
  ·
   have hz' : z ∈ c.ids ++ [id] := hz
   rcases List.mem_append.1 hz' with q | q
   ·
    exact Or.inl q
   exact Or.inr (by simpa using q)
  have h2 := hk.len
  show (c.ids ++ [id]).length ≤ 1000
  rw [List.length_append]
  simp
  omega
 simp [badChain] at h
theorem joinC_bd (y : DWorld) (id : Int) : -1000000000 ≤ joinC y id ∧ joinC y id ≤ 1000000000 := by
 have := joinR_bd y.chain id
 unfold joinC
 split
 ·
  exact this
 split <;> omega
theorem joinW_eq (x : DWorld) (id : Int) : steppedR x (idFaultR x id) (joinC (nextW x) id) true (joined (nextW x) id) = joinWR x id := by
 rw [steppedR_eq, joinWR]
 by_cases h : askedW x id ≠ 0
 ·
  rw [if_pos h, if_pos h]
 rw [if_neg h, if_neg h, resW]
 have e1 : joinC (nextW x) id = joinC x id := rfl
 rw [e1]
 by_cases h2 : (joinR x.chain id).code ≠ 0
 ·
  have e2 : joinC x id = (joinR x.chain id).code := if_pos h2
  rw [e2, if_pos h2, if_neg h2]
 by_cases h3 : canJoin x id = true
 ·
  have e2 : joinC x id = 0 := by rw [joinC, if_neg h2, if_pos h3]
  rw [e2, if_neg h2, if_pos h3, if_pos rfl]
 have e2 : joinC x id = 10 := by rw [joinC, if_neg h2, if_neg h3]
 rw [e2, if_neg h2, if_neg h3, if_neg (by decide)]
theorem joinWR_few {x : DWorld} {id : Int} (hs : Lay.tWorld.sz x ≤ 1048576) : Lay.tWorldResult.vcnt (joinWR x id) ≤ 100000000 := by
 unfold joinWR
 split
 ·
  exact badW_few _
 rename_i q
 obtain ⟨hwf, -⟩ := asked_zero (by simpa using q)
 have hok := worldFault_zero hwf
 have hF := few_of_ok hok hs
 split
 ·
  exact badW_few _
 rename_i q2
 split
 ·
  have h3 := (joinR_ok hok.chain (by simpa using q2)).2.2
  have hT := nodeOf_ws hF (tailId x)
  have hP : FewW (putNode (nextW x) (tookN (nodeOf x id) (nodeOf x (tailId x)))) := few_put (few_next hF) ⟨Nat.le_trans (by show (List.take _ _).length ≤ _; rw [List.length_take]; exact Nat.min_le_right _ _) hT.1, fun v hv => hT.2 v (List.mem_of_mem_take hv)⟩
  exact few_vcnt (few_inst ⟨h3, hP.len, hP.nodes, hP.mlen, hP.msgs, hP.hist⟩)
 exact badW_few _
def instJ (ep : Int) (zs : List Int) (j : Nat) (n : DNode) : DNode := if n.id ≤ (j : Int) then instP ep zs n else n
def instJW (y : DWorld) (j : Nat) : DWorld := ⟨y.now, y.events, y.chain, y.nodes.map (instJ y.chain.epoch y.chain.ids j), y.msgs, y.history⟩
theorem instJ_parts (ep : Int) (zs : List Int) (j : Nat) (n : DNode) (h : n.id = (j : Int) + 1) : instJ ep zs j n = n := if_neg (by omega)
theorem instJW_zero {y : DWorld} (hid : ∀ i (h : i < y.nodes.length), y.nodes[i].id = (i : Int) + 1) : instJW y 0 = y := by
 have : y.nodes.map (instJ y.chain.epoch y.chain.ids 0) = y.nodes := by
  apply List.ext_getElem
  ·
   simp
  intro i h1 h2
  have := hid i h2
  simp only [List.getElem_map]
  exact if_neg (by rw [this]; omega)
 simp only [instJW, this]
theorem instJW_all {y : DWorld} (hid : ∀ i (h : i < y.nodes.length), y.nodes[i].id = (i : Int) + 1) : instJW y y.nodes.length = instPW y y.chain.ids := by
 have : y.nodes.map (instJ y.chain.epoch y.chain.ids y.nodes.length) = y.nodes.map (instP y.chain.epoch y.chain.ids) := by
  apply List.ext_getElem
  ·
   simp
  intro i h1 h2
  simp only [List.length_map] at h2
  have := hid i h2
  simp only [List.getElem_map]
  exact if_pos (by rw [this]; omega)
 simp only [instJW, instPW, this]
theorem instJW_set {y : DWorld} {j : Nat} (hj : j < y.nodes.length) (hid : ∀ i (h : i < y.nodes.length), y.nodes[i].id = (i : Int) + 1) (hup : y.nodes[j].up = true) (hin : y.nodes[j].id ∈ y.chain.ids) :
  setN (instJW y j) j (grantN y.nodes[j] y.chain.epoch) = instJW y (j + 1) := by
 simp only [setN, instJW]
 congr 1
 apply List.ext_getElem
 ·
  simp
 intro i h1 h2
 simp only [List.length_map] at h2
 have hi := hid i h2
 rw [List.getElem_set]
 simp only [List.getElem_map]
 by_cases e : j = i
 ·
  subst e
  rw [if_pos rfl]
  have a : instJ y.chain.epoch y.chain.ids (j + 1) y.nodes[j] = instP y.chain.epoch y.chain.ids y.nodes[j] := if_pos (by rw [hi]; omega)
  rw [a]
  exact (if_pos ⟨hup, hin⟩).symm
 rw [if_neg e]
 unfold instJ
 by_cases q : i < j
 ·
  rw [if_pos (by rw [hi]; omega), if_pos (by rw [hi]; omega)]
 rw [if_neg (by rw [hi]; omega), if_neg (by rw [hi]; omega)]
theorem instJW_skip {y : DWorld} {j : Nat} (hj : j < y.nodes.length) (hid : ∀ i (h : i < y.nodes.length), y.nodes[i].id = (i : Int) + 1) (hno : ¬ (y.nodes[j].up = true ∧ y.nodes[j].id ∈ y.chain.ids)) :
  instJW y j = instJW y (j + 1) := by
 simp only [instJW]
 congr 1
 apply List.ext_getElem
 ·
  simp
 intro i h1 h2
 simp only [List.length_map] at h2
 have hi := hid i h2
 simp only [List.getElem_map]
 unfold instJ
 by_cases e : j = i
 ·
  subst e
  rw [if_neg (by rw [hi]; omega), if_pos (by rw [hi]; omega)]
  exact (if_neg hno).symm
 by_cases q : i < j
 ·
  rw [if_pos (by rw [hi]; omega), if_pos (by rw [hi]; omega)]
 rw [if_neg (by rw [hi]; omega), if_neg (by rw [hi]; omega)]
theorem l13InstallC (g lo hi : Nat) (G : Nat → Prop) (ac : Option Addr) (dc : Nat) (e0 : Int) (v30 v4 v5 v6 : Value) (y : DWorld) (W : World) (hg : Box 0 #[.int .i64 y.now, .int .i64 y.events, .int .i64 e0, v30, v4, v5, v6] 36 W g) (hlo : lo ≤ g) (hGg : G g) (hO : WSt W lo hi G [.int .i64 y.now, .int .i64 y.events, .int .i64 y.chain.epoch, .slice ac y.chain.ids.length dc, v4, v5, v6] y)
  (h1 : 1 ≤ y.nodes.length) (h5 : y.nodes.length ≤ 5) (hid : ∀ i (h : i < y.nodes.length), y.nodes[i].id = (i : Int) + 1) :
  Calls Tryz.prog 89 #[.pointer (some ⟨g, 0, none⟩), .agg #[.int .i64 y.chain.epoch, .slice ac y.chain.ids.length dc]] W fun e w' => e = .returned (.tuple #[]) ∧ Box 0 #[.int .i64 y.now, .int .i64 y.events, .int .i64 y.chain.epoch, .slice ac y.chain.ids.length dc, v4, v5, v6] 36 w' g ∧ WSt w' lo hi G [.int .i64 y.now, .int .i64 y.events, .int .i64 y.chain.epoch, .slice ac y.chain.ids.length dc, v4, v5, v6] (instPW y y.chain.ids) ∧ Ext (fun q => lo ≤ q) W w' := by
 obtain ⟨b, off, d4, _, _, rfl, hb1, hbh, hb2, hbG, -, -, -, -, -⟩ := wst_upd hO (show 0 < y.nodes.length by omega)
 have nb : Below W.heap.size W (W.alloc (.cells #[.int .i64 y.chain.epoch, .slice ac y.chain.ids.length dc] 31)) := (Below.refl _ _).alloc (Nat.le_refl _) _
 have hCB : Box 0 #[.int .i64 y.chain.epoch, .slice ac y.chain.ids.length dc] 31 (W.alloc (.cells #[.int .i64 y.chain.epoch, .slice ac y.chain.ids.length dc] 31)) W.heap.size := newBox (Nat.zero_le _)
 have hgl := hg.lt
 have HG := yh (hg.keep nb)
 have HO := yh (hO.later nb)
 have HX : Hid (Ext (fun q => lo ≤ q) W (W.alloc (.cells #[.int .i64 y.chain.epoch, .slice ac y.chain.ids.length dc] 31))) := yh (ext_of_below nb _)
 have HCB := yh hCB
 have HID := yh hid
 have HLO : Hid (lo ≤ b) := hb1
 have HGG := yh hGg
 have hcb : W.heap.size ≠ b := by omega
 have hgb : g ≠ b := fun e => hbG (e ▸ hGg)
 have hgc : g ≠ W.heap.size := by omega
 clear hid nb hCB hg hO hGg hbG
 go_enter Tryz.func89, Tryz.ntmps89
 go_upto_region 1 with fail
 generalize W.alloc (.cells #[.int .i64 y.chain.epoch, .slice ac y.chain.ids.length dc] 31) = W1 at *
 have hcw : W.heap.size < W1.heap.size := (uh HCB).lt
 have c0 := Box.at (uh HCB) 0 _ rfl
 have c1 := Box.at (uh HCB) 1 _ rfl
 have g2 := Box.at (uh HG) 2 _ rfl
 have g3 := Box.at (uh HG) 3 _ rfl
 simp only [ga, gb, gc] at c0 c1 g2 g3
 have cl := (uh HCB).lt
 have gl := (uh HG).lt
 have gf := Box.soft (uh HG)
 have hg9 := Box.set (Box.set (uh HG) 2 (.int .i64 y.chain.epoch)) 3 (.slice ac y.chain.ids.length dc)
 simp only [List.setIfInBounds_toArray, List.set_cons_zero, List.set_cons_succ] at hg9
 have e9 : Ext (fun q => q = g) W1 ((W1.setCell ⟨g, 2, none⟩ (.int .i64 y.chain.epoch)).setCell ⟨g, 3, none⟩ (.slice ac y.chain.ids.length dc)) := ((Ext.refl (fun q => q = g) W1).setCell ⟨g, 2, none⟩ (.int .i64 y.chain.epoch) rfl).setCell ⟨g, 3, none⟩ (.slice ac y.chain.ids.length dc) rfl
 replace HCB := yh ((uh HCB).ext e9 (fun e => hgc e.symm))
 replace HO := yh ((uh HO).ext e9 (fun k h1 h2 h3 => h2 (h3 ▸ uh HGG)))
 replace HX := yh ((uh HX).trans (e9.mono (fun q _ e => by omega)))
 replace HG := yh hg9
 have hz9 : ((W1.setCell ⟨g, 2, none⟩ (.int .i64 y.chain.epoch)).setCell ⟨g, 3, none⟩ (.slice ac y.chain.ids.length dc)).heap.size = W1.heap.size := by simp
 clear hg9 e9
 go_upto_region 2 with fail
 generalize hWW : (W1.setCell ⟨g, 2, none⟩ (.int .i64 y.chain.epoch)).setCell ⟨g, 3, none⟩ (.slice ac y.chain.ids.length dc) = W2 at *
 clear hWW c0 c1 g2 g3 cl gl gf
 go_wp2_with fail
 go_loopw [4] (fun i wr => ∃ j : Nat, j ≤ y.nodes.length ∧ i = .int .i64 j ∧ Box 0 #[.int .i64 y.now, .int .i64 y.events, .int .i64 y.chain.epoch, .slice ac y.chain.ids.length dc, .slice (some ⟨b, off, none⟩) y.nodes.length d4, v5, v6] 36 wr g ∧ WSt wr lo hi G [.int .i64 y.now, .int .i64 y.events, .int .i64 y.chain.epoch, .slice ac y.chain.ids.length dc, .slice (some ⟨b, off, none⟩) y.nodes.length d4, v5, v6] (instJW y j) ∧ Box 0 #[.int .i64 y.chain.epoch, .slice ac y.chain.ids.length dc] 31 wr W.heap.size ∧ Ext (fun q => lo ≤ q) W wr) (fun i _ => y.nodes.length - (intOf i).toNat)
 case atStart => exact ⟨0, Nat.zero_le _, rfl, uh HG, by rw [instJW_zero (uh HID)]; exact uh HO, uh HCB, uh HX⟩
 case round =>
  clear HG HO HCB HX
  obtain ⟨j, hj, rfl, hG, hO, hCB, hX⟩ := hrel
  have HG := yh hG
  have HCB := yh hCB
  have HX := yh hX
  have HO := yh hO
  have g4 := Box.at hG 4 _ rfl
  simp only [ga, gb, gc] at g4
  have gl := hG.lt
  by_cases hlt : j < y.nodes.length
  ·
   have hdl : decide ((j : Int) < (y.nodes.length : Int)) = true := by simp; omega
   have hop := open_World hO.reads
   dsimp only [instJW] at hop
   obtain ⟨_, _, _, _, _, _, _, _, hq, RC, -, -, -⟩ := hop
   simp only [List.cons.injEq, Value.slice.injEq, and_true, true_and] at hq
   obtain ⟨⟨rfl, rfl⟩, -⟩ := hq
   obtain ⟨_, _, hq2, RI⟩ := open_Chain RC
   simp only [List.cons.injEq, Value.slice.injEq, and_true, true_and] at hq2
   obtain ⟨rfl, rfl⟩ := hq2
   have hk' : j < (instJW y j).nodes.length := by show j < (y.nodes.map _).length; rw [List.length_map]; exact hlt
   obtain ⟨b', off', d4', an, dn, e4, -, -, hb2', -, hR0, hwf, -, -, hput⟩ := wst_upd hO hk'
   simp only [Value.slice.injEq] at e4
   obtain ⟨e4a, -, rfl⟩ := e4
   simp only [Option.some.injEq, Addr.mk.injEq, and_true] at e4a
   obtain ⟨rfl, rfl⟩ := e4a
   have hmm : (instJW y j).nodes[j] = y.nodes[j] := by
    simp only [instJW, List.getElem_map]
    exact instJ_parts _ _ _ _ (uh HID j hlt)
   rw [hmm] at hput hR0 hwf
   have HSET : Hid (y.nodes[j].up = true → y.nodes[j].id ∈ y.chain.ids → setN (instJW y j) j (grantN y.nodes[j] y.chain.epoch) = instJW y (j + 1)) := fun q r => instJW_set hlt (uh HID) q r
   have HSKIP : Hid (¬ (y.nodes[j].up = true ∧ y.nodes[j].id ∈ y.chain.ids) → instJW y j = instJW y (j + 1)) := fun q => instJW_skip hlt (uh HID) q
   have c0 := Box.at hCB 0 _ rfl
   have c1 := Box.at hCB 1 _ rfl
   simp only [ga, gb, gc] at c0 c1
   generalize y.nodes[j] = m at *
   have HLA := yh (l10AtO W.heap.size 0 ac dc y.chain m.id wr ⟨c0, c1⟩ RI)
   have HPUT := yh hput
   have HWF := yh hwf
   have HRW : Hid (RowAt wr wr b (off + j * 7) 7 [.int .i64 m.id, .bool m.up, .int .i64 m.epoch, .int .i64 m.lease, .slice an m.writes.length dn, .int .i64 m.sure, .int .i64 m.clean] []) := ⟨hR0.len, hR0.cells, hR0.others, hR0.soft, hR0.lt, Ext.refl _ _⟩
   have x1 : wr.cell? ⟨b, off + j * 7 + 1, none⟩ = some (.bool m.up) := (uh HRW).cells 1 (by decide)
   have x0 : wr.cell? ⟨b, off + j * 7, none⟩ = some (.int .i64 m.id) := (uh HRW).cells 0 (by decide)
   have hki : (j : Int) < (y.nodes.length : Int) := by omega
   have HMEM := yh (mem_place y.chain.ids m.id)
   have hmp := placeC_bd y.chain.ids m.id
   clear hO hG hCB hX RC RI hR0 hput hwf hmm c0 c1
   cases hu2 : m.up
   ·
    rw [hu2] at x1
    have HO1 : Hid (WSt wr lo hi G [.int .i64 y.now, .int .i64 y.events, .int .i64 y.chain.epoch, .slice ac y.chain.ids.length dc, .slice (some ⟨b, off, none⟩) y.nodes.length d4, v5, v6] (instJW y (j + 1))) := by
     have := uh HO
     rw [uh HSKIP (fun q => by rw [hu2] at q; exact absurd q.1 (by decide))] at this
     exact this
    clear HSET HSKIP HPUT HWF HRW HO HMEM HLA
    go_wp2_with fail
    go_roundw
    case rel => exact ⟨j + 1, by omega, by go_num, uh HG, uh HO1, uh HCB, uh HX⟩
    case measure => simp [intOf]; omega
   rw [hu2] at x1
   have HU2 := yh hu2
   clear hu2
   go_wp2_with fail
   refine (uh HLA).mono ?_
   rintro e w5 ⟨rfl, h5⟩
   subst w5
   clear HLA x0 x1
   by_cases hpl : 0 ≤ placeC y.chain.ids m.id
   ·
    have hd5 : decide (0 ≤ placeC y.chain.ids m.id) = true := by simpa using hpl
    have HSS := yh (uh HSET (uh HU2) ((uh HMEM).1 (by simpa using hpl)))
    have HBW : Hid (Below wr.heap.size wr wr.drew) := (Below.refl _ _).drew
    have hwe : (Lit.int .i64 y.chain.epoch).wf = true := (wf_World (uh HO).reads).2.2
    have HWE := yh hwe
    clear HSET HSKIP HMEM HO hpl hwe
    generalize placeC y.chain.ids m.id = pp at *
    go_upto_region 6 with fail
    refine wp_region_noPanic ?_
    refine wp_region_held_drew (S := fun w' => Ext (fun q => q = b) wr w') (by kernel_rfl) ((Ext.refl _ _).drew 1) (fun zq => ?_)
    generalize wr.drew = wE at zq HBW ⊢
    refine tkH 0 zq ?_
    refine tkH 1 zq ?_
    refine tkH 2 zq ?_
    refine tkJ 3 (v := ?vc3) ?hc3 zq ?rc3
    case hc3 =>
     intro wS hSw
     have bS := (uh HG).ext hSw (fun e => hgb e)
     have q4 := Box.at bS 4 _ rfl
     simp only [ga, gb, gc] at q4
     clear bS hSw
     (try dsimp only at hSw)
     go_simp
     try with_reducible rfl
    refine tkH 4 zq ?_
    refine tkH 5 zq ?_
    refine tkJ 6 (v := ?vc6) ?hc6 zq ?rc6
    case hc6 =>
     intro wS hSw
     have bS := (uh HCB).ext hSw (fun e => hcb e)
     have q0 := Box.at bS 0 _ rfl
     simp only [List.getElem_toArray, List.getElem_cons_zero] at q0
     clear bS hSw
     (try dsimp only at hSw)
     go_simp
     try with_reducible rfl
    refine tkH 7 zq ?_
    refine tkH 8 zq ?_
    refine rdH 9 (fun K hK => ?_)
    have hR3 := (uh HRW).call (g := []) (ext_of_below (uh HBW) _) (fun _ h => h) (by simp)
    have HR3 := yh hR3
    have x2 := hR3.cells 2 (by decide)
    have f2 := hR3.soft (off + j * 7 + 2)
    simp only [List.getElem?_cons_succ, List.getElem?_cons_zero] at x2
    have bl := hR3.lt
    clear hR3
    go_simp
    refine hK.out _ _ (Ext.setCell zq ⟨b, off + j * 7 + 2, none⟩ (.int .i64 y.chain.epoch) rfl) (fun zq => ?_)
    clear hK K
    try simp only [Act.put, pz, py, px]
    refine wpAnyH_done (by kernel_rfl) ?_ _
    refine NoPanic.normal ?_
    have hR9 := (uh HR3).set 2 (.int .i64 y.chain.epoch) (by decide)
    simp only [List.set_cons_succ, List.set_cons_zero] at hR9
    have hO9 := uh HPUT _ (grantN m y.chain.epoch) rfl ⟨(uh HWF).1, uh HWE, (uh HWF).2.2.1, (uh HWF).2.2.2.1, (uh HWF).2.2.2.2⟩ ⟨hR9.len, hR9.cells, hR9.others, hR9.soft, hR9.lt, hR9.ext⟩
    rw [uh HSS] at hO9
    have HO9 := yh hO9
    have HG9 := yh ((uh HG).ext zq hgb)
    have HCB9 := yh ((uh HCB).ext zq hcb)
    have HX9 := yh ((uh HX).trans (zq.mono (fun q _ e => by have := uh HLO; rw [e]; exact this)) : Ext (fun q => lo ≤ q) W _)
    clear hO9 hR9 HR3 HPUT HWF HSS zq HG HCB HX HRW HBW x2 f2 bl g4 gl
    go_wp2_with fail
    go_roundw
    case rel => exact ⟨j + 1, by omega, by go_num, uh HG9, uh HO9, uh HCB9, uh HX9⟩
    case measure => simp [intOf]; omega
   have hd5 : decide (0 ≤ placeC y.chain.ids m.id) = false := by simpa using hpl
   have HO1 : Hid (WSt wr lo hi G [.int .i64 y.now, .int .i64 y.events, .int .i64 y.chain.epoch, .slice ac y.chain.ids.length dc, .slice (some ⟨b, off, none⟩) y.nodes.length d4, v5, v6] (instJW y (j + 1))) := by
    have := uh HO
    rw [uh HSKIP (fun q => hpl (by simpa using (uh HMEM).2 q.2))] at this
    exact this
   clear HSET HSKIP HPUT HWF HRW HO HMEM hpl
   go_wp2_with fail
   go_roundw
   case rel => exact ⟨j + 1, by omega, by go_num, uh HG, uh HO1, uh HCB, uh HX⟩
   case measure => simp [intOf]; omega
  obtain rfl : j = y.nodes.length := by omega
  have hdl : decide ((y.nodes.length : Int) < (y.nodes.length : Int)) = false := by simp
  rw [instJW_all (uh HID)] at hO
  have HO9 := yh hO
  clear hO HO hG hCB hX
  go_wp2_with fail
  refine bodyPost_end (v := .tuple #[]) (by simp [results, Tryz.results89, go_sem]) rfl ?_
  exact ⟨rfl, uh HG, uh HO9, uh HX⟩
theorem box_lowC {lo : Nat} {cs : Array Value} {T : TypeId} {W w' : World} {s B : Nat} (h : Box lo cs T W s) (hb : Below B W w') (hs : s < B) : Box lo cs T w' s := ⟨h.1, (hb.block s hs).trans h.2⟩
theorem own_intsC {w : World} {v : Value} {zs : List Int} {base : Nat} (hw : ∀ z ∈ zs, (Lit.int .i64 z).wf = true) (hn : zs.length ≤ 100000000) (h : w.ownsRow base 2 1 v zs.length (zs.map (Value.int .i64))) : (Lay.sl Lay.int).OwnIn w [v] zs base w.heap.size :=
 Lay.ownInts hw (by omega) h
theorem one_ints {w : World} {b : Nat} {id : Int} (h : Box 0 #[.int .i64 id] 2 w b) (hw : (Lit.int .i64 id).wf = true) : IsInts w (.slice (some ⟨b, 0, none⟩) 1 1) [id] :=
 isInts_row (zs := [id]) (base := 0) (T := 2) (by intro z hz; rw [List.mem_singleton.1 hz]; exact hw) ⟨by simp, Or.inr ⟨b, 1, #[.int .i64 id], rfl, Nat.zero_le _, h.2, Nat.le_refl _, by unfold maxLen; omega, rfl, rfl⟩⟩
theorem step_append_ints {w : World} {base : Nat} {v : Value} {n : Nat} {xs : List Value} (hown : w.ownsRow base 2 1 v n xs) {X : Value} {ks : List Int} (hx : IsInts w X ks)
  {ops : Array Oper} {o : Oper} {a : Act} {K : Act → World → Prop} {Q : Exit → Act → World → Prop} {E : Prop} (hgd : o.guard = none) (s x : Operand)
  (ho : o.op = .call { callee := .builtin .append, args := #[s, x], argTypes := #[22, 22] }) (hv : a.eval s = v) (hX : a.eval x = X)
  (hn : n + ks.length ≤ 100000000) (hbase : base ≤ w.heap.size)
  (h : ∀ v' w', w'.ownsRow base 2 1 v' (n + ks.length) (xs ++ ks.map (Value.int .i64)) → w.grownBy w' v.ownBlock → Below base w w' → K (a.put o.dst v') w') :
  if Region.wanted o (yielded ops a.tmps) = true then Oper.wp Tryz.prog o a w K Q else E := by
 rw [if_pos (show Region.wanted o (yielded ops a.tmps) = true by simp [Region.wanted, hgd])]
 obtain ⟨v', w', hr, h2, h3⟩ := run_append_ints base o.type v n xs hown X ks hx hn hbase
 unfold Oper.wp execOp
 simp only [ho, resolve, invoke, builtin, Sem.run_bind, Sem.run_pure, Result.andThen_ok, List.map_toArray, List.map_cons, List.map_nil, hv, hX, hr]
 exact h v' w' h2 h3 ((Below.refl _ _).grown h3 hbase (fun j hj => (hown.lt j hj).1))
theorem specJoinChainG (cs : List Value) (x : DChain) (id : Int) (w : World) (h : Lay.tChain.Reads w cs x) :
  Calls Tryz.prog 91 #[.agg cs.toArray, .int .i64 id] w fun e w' => ∃ v, e = .returned (.agg #[.int .i64 (joinR x id).code, .int .i64 (joinR x id).chain.epoch, v]) ∧ w'.ownsRow w.heap.size 2 1 v (joinR x id).chain.ids.length ((joinR x id).chain.ids.map (Value.int .i64)) ∧ Below w.heap.size w w' := by
 obtain ⟨a, d, rfl, R⟩ := open_Chain h
 have nb : Below w.heap.size w ((w.alloc (.cells #[.int .i64 x.epoch, .slice a x.ids.length d] 31)).alloc (.cells #[.int .i64 0, .int .i64 0, .slice none 0 0] 111)) := ((Below.refl _ _).alloc (Nat.le_refl _) _).alloc (by simp) _
 have hX : ChainAt ((w.alloc (.cells #[.int .i64 x.epoch, .slice a x.ids.length d] 31)).alloc (.cells #[.int .i64 0, .int .i64 0, .slice none 0 0] 111)) w.heap.size (.slice a x.ids.length d) x := (newBox (Nat.zero_le _)).grow _
 have bR : Box 0 #[.int .i64 0, .int .i64 0, .slice none 0 0] 111 ((w.alloc (.cells #[.int .i64 x.epoch, .slice a x.ids.length d] 31)).alloc (.cells #[.int .i64 0, .int .i64 0, .slice none 0 0] 111)) (w.heap.size + 1) := newBoxAt (Nat.zero_le _) (by simp)
 have HF := yh (l10FaultC w.heap.size a d x _ hX (R.later nb))
 have HA := yh (l10AtC w.heap.size a d x id _ hX (R.later nb))
 have HR1 := yh R
 have HWF := yh (int_wf R)
 have x0 := Box.at hX 0 _ rfl
 have x1 := Box.at hX 1 _ rfl
 have z0 := Box.at bR 0 _ rfl
 have z1 := Box.at bR 1 _ rfl
 have z2 := Box.at bR 2 _ rfl
 simp only [ga, gb, gc] at x0 x1 z0 z1 z2
 have ff := Box.soft bR
 have l0 := Box.lt bR
 have xl := Box.lt hX
 have HB := yh nb
 have HX := yh hX
 have HR := yh bR
 have HXX := HX
 clear HXX h R nb hX bR
 go_enter Tryz.func91, Tryz.ntmps91
 go_wp2_with fail
 generalize (w.alloc (.cells #[.int .i64 x.epoch, .slice a x.ids.length d] 31)).alloc (.cells #[.int .i64 0, .int .i64 0, .slice none 0 0] 111) = W at *
 refine (uh HF).mono ?_
 rintro e w1 ⟨rfl, h1⟩
 subst w1
 clear HF
 by_cases hc : chainFault x = 0
 ·
  have ok := chainFault_zero hc
  have hlen := ok.len
  have hep := ok.epoch
  have HV0 : Hid (joinR x id = _) := (if_pos hc)
  rw [hc]
  clear hc ok
  go_wp2_with fail
  refine (node10C id W).mono ?_
  rintro e w1 ⟨rfl, h1⟩
  subst w1
  cases d1 : (decide (1 ≤ id) && decide (id ≤ 5))
  ·
   have HV : Hid (joinR x id = badChain 3) := (uh HV0).trans (if_neg (by simpa using d1))
   clear HV0 d1 HA
   have HB2 := yh (below_setAll (uh HB) (w.heap.size + 1) 0 [.int .i64 (3), .int .i64 0, .slice none 0 0] (by omega))
   clear HB
   go_wp2_with fail
   refine bodyPost_ret (v := .agg #[.int .i64 (3), .int .i64 0, .slice none 0 0]) (by simp [results, Tryz.results91, go_sem, z0, z1, z2]) rfl ?_
   rw [uh HV]
   exact ⟨_, rfl, World.ownsRow_nil _ _ _ _, uh HB2⟩
  have hid : 1 ≤ id ∧ id ≤ 5 := by simpa using d1
  have HV1 := yh ((uh HV0).trans (if_pos hid))
  clear HV0 d1
  go_wp2_with fail
  refine (uh HA).mono ?_
  rintro e w1 ⟨rfl, h1⟩
  subst w1
  clear HA
  by_cases h0 : 0 ≤ placeC x.ids id
  ·
   have HV : Hid (joinR x id = badChain 6) := (uh HV1).trans (if_pos h0)
   have hd0 : decide (0 ≤ placeC x.ids id) = true := by simpa using h0
   clear HV1
   generalize placeC x.ids id = p at *
   have HB2 := yh (below_setAll (uh HB) (w.heap.size + 1) 0 [.int .i64 (6), .int .i64 0, .slice none 0 0] (by omega))
   clear HB
   go_wp2_with fail
   refine bodyPost_ret (v := .agg #[.int .i64 (6), .int .i64 0, .slice none 0 0]) (by simp [results, Tryz.results91, go_sem, z0, z1, z2]) rfl ?_
   rw [uh HV]
   exact ⟨_, rfl, World.ownsRow_nil _ _ _ _, uh HB2⟩
  have hd0 : decide (0 ≤ placeC x.ids id) = false := by simpa using h0
  have HV2 := yh ((uh HV1).trans (if_neg h0))
  clear HV1
  generalize placeC x.ids id = p at *
  by_cases h2 : 999 ≤ x.epoch
  ·
   have HV : Hid (joinR x id = badChain 2) := (uh HV2).trans (if_pos h2)
   have hd2 : decide ((999 : Int) ≤ x.epoch) = true := by simpa using h2
   clear HV2
   have HB2 := yh (below_setAll (uh HB) (w.heap.size + 1) 0 [.int .i64 (2), .int .i64 0, .slice none 0 0] (by omega))
   clear HB
   go_wp2_with fail
   refine bodyPost_ret (v := .agg #[.int .i64 (2), .int .i64 0, .slice none 0 0]) (by simp [results, Tryz.results91, go_sem, z0, z1, z2]) rfl ?_
   rw [uh HV]
   exact ⟨_, rfl, World.ownsRow_nil _ _ _ _, uh HB2⟩
  have HV : Hid (joinR x id = ⟨0, ⟨x.epoch + 1, x.ids ++ [id]⟩⟩) := (uh HV2).trans (if_neg h2)
  have hd2 : decide ((999 : Int) ≤ x.epoch) = false := by simpa using h2
  have HRI : Hid (∀ w', Below (w.heap.size + 1) W w' → (Lay.sl Lay.int).Reads w' [.slice a x.ids.length d] x.ids) := fun w' hw => (uh HR1).later ((uh HB).trans (hw.mono (by omega)))
  have HWJ : Hid (∀ z ∈ x.ids ++ [id], (Lit.int .i64 z).wf = true) := fun z hz => by
   rcases List.mem_append.1 hz with hz | hz
   ·
    exact uh HWF z hz
   rw [List.mem_singleton.1 hz]; exact wf_of_bd (by omega)
  clear HV2 z0 z1 z2 ff l0
  have hRD := Box.drew (uh HR)
  have hzD : W.heap.size ≤ W.drew.heap.size := Nat.le_refl _
  have hlW := Box.lt (uh HR)
  go_wp2_with fail
  refine wp_region_noPanic ?_
  refine wp_region_held_drew (S := fun w' => Below (w.heap.size + 1) W w') (by kernel_rfl) (Below.refl _ _).drew (fun zq => ?_)
  generalize W.drew = wD at zq hRD hzD ⊢
  refine tkH 0 zq ?_
  refine tkJ 1 (v := ?vj1_2) ?hj1_2 zq ?rj1_2
  case hj1_2 =>
   intro wS hSw
   have e1 : wS.cell? ⟨w.heap.size, 0, none⟩ = some (.int .i64 x.epoch) := (hSw.cell (p := ⟨w.heap.size, 0, none⟩) (by show w.heap.size < w.heap.size + 1; omega)).trans x0
   clear hSw
   (try dsimp only at hSw)
   go_simp
   try with_reducible rfl
  refine tkJ 2 (v := ?vj2_3) ?hj2_3 zq ?rj2_3
  case hj2_3 =>
   intro wS hSw
   clear hSw
   have hwr : IntKind.i64.wrap (x.epoch + 1) = x.epoch + 1 := by rw [IntKind.wrap_i64]; omega
   (try dsimp only at hSw)
   go_simp
   try with_reducible rfl
  refine tkH 3 zq ?_
  refine tkJ 4 (v := ?vj4_5) ?hj4_5 zq ?rj4_5
  case hj4_5 =>
   intro wS hSw
   have e1 : wS.cell? ⟨w.heap.size, 1, none⟩ = some (.slice a x.ids.length d) := (hSw.cell (p := ⟨w.heap.size, 1, none⟩) (by show w.heap.size < w.heap.size + 1; omega)).trans x1
   clear hSw
   (try dsimp only at hSw)
   go_simp
   try with_reducible rfl
  refine tkH 6 zq ?_
  refine wpAnyH_ready (rs := [5, 7]) (by kernel_rfl) (by simp) ?_
  refine AllReadyH.cons (o := ⟨some 28, .call { callee := .value (.func 103), args := #[.tmp 27], argTypes := #[22] }, 22, "l10_chain.go:117", #[⟨4, .data⟩], none⟩) rfl (fun K hK => ?oj5_7) (AllReadyH.cons (o := ⟨some 30, .buildSlice 22 1 #[(0, .tmp 29)], 22, "l10_chain.go:117", #[⟨6, .data⟩], none⟩) rfl (fun K hK => ?oj7_7) (AllReadyH.nil))
  case oj5_7 =>
   go_simp
   go_at_call 103
   refine (l1Ints _ x.ids _ (Lay.ints_reads (uh HRI _ zq)) (by omega)).mono ?_
   rintro e w4 ⟨v4, rfl, O4, hb4⟩
   have hS4 := zq.trans (hb4.mono (by omega))
   have hz4 := hb4.size
   have hR4 := hRD.keep hb4
   replace O4 := own_mono (b' := W.heap.size) (by omega) O4
   try go_wp2_with fail
   refine hK.out _ _ hS4 (fun zq => ?_)
   clear hK K
   try simp only [Act.put, pz, py, px]
   refine rdH 7 (fun K hK => ?_)
   have b7 : Box 0 #[.int .i64 id] 2 ((w4).alloc (.cells #[.int .i64 id] 2)) (w4).heap.size := newBox (Nat.zero_le _)
   have nb7 : Below (w4).heap.size (w4) ((w4).alloc (.cells #[.int .i64 id] 2)) := (Below.refl _ _).alloc (Nat.le_refl _) _
   replace O4 := own_below O4 nb7
   replace hR4 := hR4.keep nb7
   have hS7 := hS4.trans (nb7.mono (by omega))
   go_simp
   try go_wp2_with fail
   refine hK.out _ _ hS7 (fun zq => ?_)
   clear hK K
   try simp only [Act.put, pz, py, px]
   refine rdH 8 (fun K hK => ?_)
   refine step_append_ints O4 (one_ints b7 (wf_of_bd (by omega))) rfl _ _ rfl rfl rfl (by simp; omega) (by simp; omega) ?_
   rintro v5 w5 O5 - hb5
   obtain ⟨a9, c9, rfl⟩ := own_shape O5
   have hS5 := hS7.trans (hb5.mono (by omega))
   have hR5 := box_lowC hR4 hb5 (by omega)
   have z0 := Box.at hR5 0 _ rfl
   have z1 := Box.at hR5 1 _ rfl
   have z2 := Box.at hR5 2 _ rfl
   simp only [ga, gb, gc] at z0 z1 z2
   have ff := Box.soft hR5
   have l0 := Box.lt hR5
   refine hK.out _ _ hS5 (fun zq => ?_)
   clear hK K
   try simp only [Act.put, pz, py, px]
   refine tkJ 9 (v := ?vj9_8) ?hj9_8 zq ?rj9_8
   case hj9_8 =>
    intro wS hSw
    clear hSw
    have hwr : IntKind.i64.wrap (x.epoch + 1) = x.epoch + 1 := by rw [IntKind.wrap_i64]; omega
    (try dsimp only at hSw)
    go_simp
    try with_reducible rfl
   refine tkH 10 zq ?_
   refine rdH 11 (fun K hK => ?_)
   go_simp
   try go_wp2_with fail
   refine hK.out _ _ (below_setAll hS5 (w.heap.size + 1) 0 [.int .i64 0, .int .i64 (x.epoch + 1), .slice a9 (x.ids.length + [id].length) c9] (by omega)) (fun zq => ?_)
   clear hK K
   try simp only [Act.put, pz, py, px]
   refine wpAnyH_done (by kernel_rfl) ?_ _
   refine NoPanic.normal ?_
   have hz5 := hS5.size
   have hO2 : (setAll w5 (w.heap.size + 1) 0 [.int .i64 0, .int .i64 (x.epoch + 1), .slice a9 (x.ids.length + [id].length) c9]).ownsRow W.heap.size 2 1 (.slice a9 (x.ids.length + [id].length) c9) (x.ids ++ [id]).length ((x.ids ++ [id]).map (Value.int .i64)) := by
    rw [List.length_append, List.map_append]
    exact own_setC (a := ⟨w.heap.size + 1, 2, none⟩) (own_setC (a := ⟨w.heap.size + 1, 1, none⟩) (own_setC (a := ⟨w.heap.size + 1, 0, none⟩) O5 hlW (.int .i64 0)) hlW (.int .i64 (x.epoch + 1))) hlW _
   have HO3 := yh (own_mono (b' := w.heap.size) (by omega) hO2)
   have HB2 := yh ((uh HB).trans ((below_setAll hS5 (w.heap.size + 1) 0 [.int .i64 0, .int .i64 (x.epoch + 1), .slice a9 (x.ids.length + [id].length) c9] (by omega)).mono (by omega)))
   clear zq hS5 hR5 O5 hb5 hO2 hRD
   go_wp2_with fail
   refine bodyPost_ret (v := .agg #[.int .i64 0, .int .i64 (x.epoch + 1), .slice a9 (x.ids.length + [id].length) c9]) (by simp [results, Tryz.results91, go_sem, z0, z1, z2]) rfl ?_
   rw [uh HV]
   exact ⟨_, rfl, uh HO3, uh HB2⟩
  case oj7_7 =>
   have b7 : Box 0 #[.int .i64 id] 2 ((wD).alloc (.cells #[.int .i64 id] 2)) (wD).heap.size := newBox (Nat.zero_le _)
   have nb7 : Below (wD).heap.size (wD) ((wD).alloc (.cells #[.int .i64 id] 2)) := (Below.refl _ _).alloc (Nat.le_refl _) _
   have hR7 := hRD.keep nb7
   have hS7 := zq.trans (nb7.mono (by omega))
   have hz7 := nb7.size
   go_simp
   try go_wp2_with fail
   refine hK.out _ _ hS7 (fun zq => ?_)
   clear hK K
   try simp only [Act.put, pz, py, px]
   refine rdH 5 (fun K hK => ?_)
   go_simp
   go_at_call 103
   refine (l1Ints _ x.ids _ (Lay.ints_reads (uh HRI _ zq)) (by omega)).mono ?_
   rintro e w4 ⟨v4, rfl, O4, hb4⟩
   have hS4 := zq.trans (hb4.mono (by omega))
   have hz4 := hb4.size
   have hR4 := hR7.keep hb4
   replace O4 := own_mono (b' := W.heap.size) (by omega) O4
   replace b7 := b7.keep hb4
   try go_wp2_with fail
   refine hK.out _ _ hS4 (fun zq => ?_)
   clear hK K
   try simp only [Act.put, pz, py, px]
   refine rdH 8 (fun K hK => ?_)
   refine step_append_ints O4 (one_ints b7 (wf_of_bd (by omega))) rfl _ _ rfl rfl rfl (by simp; omega) (by omega) ?_
   rintro v5 w5 O5 - hb5
   obtain ⟨a9, c9, rfl⟩ := own_shape O5
   have hS5 := hS4.trans (hb5.mono (by omega))
   have hR5 := box_lowC hR4 hb5 (by omega)
   have z0 := Box.at hR5 0 _ rfl
   have z1 := Box.at hR5 1 _ rfl
   have z2 := Box.at hR5 2 _ rfl
   simp only [ga, gb, gc] at z0 z1 z2
   have ff := Box.soft hR5
   have l0 := Box.lt hR5
   refine hK.out _ _ hS5 (fun zq => ?_)
   clear hK K
   try simp only [Act.put, pz, py, px]
   refine tkJ 9 (v := ?vj9_10) ?hj9_10 zq ?rj9_10
   case hj9_10 =>
    intro wS hSw
    clear hSw
    have hwr : IntKind.i64.wrap (x.epoch + 1) = x.epoch + 1 := by rw [IntKind.wrap_i64]; omega
    (try dsimp only at hSw)
    go_simp
    try with_reducible rfl
   refine tkH 10 zq ?_
   refine rdH 11 (fun K hK => ?_)
   go_simp
   try go_wp2_with fail
   refine hK.out _ _ (below_setAll hS5 (w.heap.size + 1) 0 [.int .i64 0, .int .i64 (x.epoch + 1), .slice a9 (x.ids.length + [id].length) c9] (by omega)) (fun zq => ?_)
   clear hK K
   try simp only [Act.put, pz, py, px]
   refine wpAnyH_done (by kernel_rfl) ?_ _
   refine NoPanic.normal ?_
   have hz5 := hS5.size
   have hO2 : (setAll w5 (w.heap.size + 1) 0 [.int .i64 0, .int .i64 (x.epoch + 1), .slice a9 (x.ids.length + [id].length) c9]).ownsRow W.heap.size 2 1 (.slice a9 (x.ids.length + [id].length) c9) (x.ids ++ [id]).length ((x.ids ++ [id]).map (Value.int .i64)) := by
    rw [List.length_append, List.map_append]
    exact own_setC (a := ⟨w.heap.size + 1, 2, none⟩) (own_setC (a := ⟨w.heap.size + 1, 1, none⟩) (own_setC (a := ⟨w.heap.size + 1, 0, none⟩) O5 hlW (.int .i64 0)) hlW (.int .i64 (x.epoch + 1))) hlW _
   have HO3 := yh (own_mono (b' := w.heap.size) (by omega) hO2)
   have HB2 := yh ((uh HB).trans ((below_setAll hS5 (w.heap.size + 1) 0 [.int .i64 0, .int .i64 (x.epoch + 1), .slice a9 (x.ids.length + [id].length) c9] (by omega)).mono (by omega)))
   clear zq hS5 hR5 O5 hb5 hO2 hRD
   go_wp2_with fail
   refine bodyPost_ret (v := .agg #[.int .i64 0, .int .i64 (x.epoch + 1), .slice a9 (x.ids.length + [id].length) c9]) (by simp [results, Tryz.results91, go_sem, z0, z1, z2]) rfl ?_
   rw [uh HV]
   exact ⟨_, rfl, uh HO3, uh HB2⟩
 have HV := yh (joinR_bad (id := id) hc)
 have hv := chainFault_vals x
 have hc2 : (chainFault x != 0) = true := by simpa using hc
 clear hc HA
 generalize chainFault x = f at *
 have HB2 := yh (below_setAll (uh HB) (w.heap.size + 1) 0 [.int .i64 (f), .int .i64 0, .slice none 0 0] (by omega))
 clear HB
 go_wp2_with fail
 refine bodyPost_ret (v := .agg #[.int .i64 (f), .int .i64 0, .slice none 0 0]) (by simp [results, Tryz.results91, go_sem, z0, z1, z2]) rfl ?_
 rw [uh HV]
 exact ⟨_, rfl, World.ownsRow_nil _ _ _ _, uh HB2⟩
theorem joinR_parts (x : DChain) (id : Int) (hx : ∀ z ∈ x.ids, (Lit.int .i64 z).wf = true) : (Lit.int .i64 (joinR x id).code).wf = true ∧ (Lit.int .i64 (joinR x id).chain.epoch).wf = true ∧ (∀ z ∈ (joinR x id).chain.ids, (Lit.int .i64 z).wf = true) ∧ (joinR x id).chain.ids.length ≤ 6 := by
 have hv := chainFault_vals x
 have nb : ∀ c : Int, -1000000000 ≤ c ∧ c ≤ 1000000000 → (Lit.int .i64 (badChain c).code).wf = true ∧ (Lit.int .i64 (badChain c).chain.epoch).wf = true ∧ (∀ z ∈ (badChain c).chain.ids, (Lit.int .i64 z).wf = true) ∧ (badChain c).chain.ids.length ≤ 6 := fun c hc => ⟨wf_of_bd hc, by show (Lit.int .i64 0).wf = true; decide, (fun z hz => by cases hz), by simp [badChain, noChain]⟩
 unfold joinR
 split
 ·
  rename_i h1
  have ok := chainFault_zero h1
  split
  ·
   rename_i h2
   split
   ·
    exact nb 6 (by omega)
   split
   ·
    exact nb 2 (by omega)
   refine ⟨by show (Lit.int .i64 0).wf = true; decide, wf_of_bd (by have := ok.epoch; simp only [joinCh]; omega), fun z hz => ?_, ?_⟩
   ·
    rcases List.mem_append.1 hz with hz | hz
    ·
     exact hx z hz
    rw [List.mem_singleton.1 hz]; exact wf_of_bd (by omega)
   have := ok.len
   simp only [joinCh, List.length_append, List.length_singleton]
   omega
  exact nb 3 (by omega)
 exact nb _ (by omega)
theorem specJoinChain (cs : List Value) (x : DChain) (id : Int) (w : World) (h : Lay.tChain.Reads w cs x) :
  Calls Tryz.prog 91 #[.agg cs.toArray, .int .i64 id] w fun e w' => ∃ cs, e = .returned (.agg cs.toArray) ∧ Lay.tChainResult.OwnIn w' cs (joinR x id) w.heap.size w'.heap.size ∧ Below w.heap.size w w' := by
 obtain ⟨a, d, rfl, R⟩ := open_Chain h
 obtain ⟨p1, p2, p3, p4⟩ := joinR_parts x id (int_wf R)
 refine (specJoinChainG _ x id w h).mono ?_
 rintro e w' ⟨v, rfl, hO, hb⟩
 exact ⟨_, rfl, own_chainR (x := (joinR x id).chain) p1 p2 (own_intsC p3 (by omega) hO), hb⟩
theorem l13TailC (a3 : Option Addr) (d3 : Nat) (d4 : Nat) (a5 : Option Addr) (d5 : Nat) (a6 : Option Addr) (d6 : Nat) (b off k : Nat) (x : DWorld) (xb : Nat) (w : World) (hX : Box 0 #[.int .i64 x.now, .int .i64 x.events, .int .i64 x.chain.epoch, .slice a3 x.chain.ids.length d3, .slice (some ⟨b, off, none⟩) x.nodes.length d4, .slice a5 x.msgs.length d5, .slice a6 x.history.length d6] 36 w xb) (h : Lay.tWorld.Reads w [.int .i64 x.now, .int .i64 x.events, .int .i64 x.chain.epoch, .slice a3 x.chain.ids.length d3, .slice (some ⟨b, off, none⟩) x.nodes.length d4, .slice a5 x.msgs.length d5, .slice a6 x.history.length d6] x) (hok : WorldOK x) (hk : k < x.nodes.length) (ht : tailId x = (k : Int) + 1) :
  Calls Tryz.prog 92 #[.pointer (some ⟨xb, 0, none⟩)] w fun e w' => e = .returned (.pointer (some ⟨b, off + k * 7, none⟩)) ∧ Below w.heap.size w w' := by
 obtain ⟨_, _, _, _, _, _, _, _, hq, RC, RN, -, -⟩ := open_World h
 simp only [List.cons.injEq, Value.slice.injEq, and_true, true_and] at hq
 obtain ⟨⟨rfl, rfl⟩, ⟨rfl, rfl⟩, -, -, -⟩ := hq
 obtain ⟨_, _, hq, RI⟩ := open_Chain RC
 simp only [List.cons.injEq, Value.slice.injEq, and_true, true_and] at hq
 obtain ⟨rfl, rfl⟩ := hq
 have hl := (chainFault_zero hok.chain).len
 obtain ⟨n, hn⟩ : ∃ n, x.chain.ids.length = n + 1 := ⟨x.chain.ids.length - 1, by omega⟩
 obtain ⟨bi, oi, rfl, hbi⟩ := Lay.sl_addr RI (by omega)
 have hlt : n < x.chain.ids.length := by omega
 have c1 := int_cell RI hlt
 have hv : x.chain.ids[n] = (k : Int) + 1 := by
  rw [← ht]
  have e : x.chain.ids.length - 1 = n := by omega
  simp [tailId, e, List.getD, hlt]
 rw [hv] at c1
 have z3 := Box.at hX 3 _ rfl
 have z4 := Box.at hX 4 _ rfl
 simp only [ga, gb, gc] at z3 z4
 have zl := hX.lt
 have hn5 := hok.some
 have hw1 : IntKind.i64.wrap (k : Int) = (k : Int) := by
  rw [IntKind.wrap_i64]
  omega
 have hw2 : IntKind.i64.wrap (n : Int) = (n : Int) := by
  rw [IntKind.wrap_i64]
  omega
 have hw3 : IntKind.i64.wrap ((n : Int) + 1 - 1) = (n : Int) := by
  rw [IntKind.wrap_i64]
  omega
 have hki : (k : Int) < (x.nodes.length : Int) := by omega
 have hki0 : (0 : Int) ≤ (k : Int) := by omega
 have hni : (n : Int) < ((n + 1 : Nat) : Int) := by omega
 have hni0 : (0 : Int) ≤ (n : Int) := by omega
 have hns : ((n + 1 : Nat) : Int) - 1 = (n : Int) := by omega
 have HB := yh (Below.refl w.heap.size w)
 have HBD : Hid (∀ m, Below w.heap.size w (w.drewN m)) := fun m => below_drawn (Below.refl _ _) m
 rw [hn] at z3
 clear hX h RC RN RI hl hlt hv hok hn5 hn ht
 go_enter Tryz.func92, Tryz.ntmps92
 go_wp2_with fail
 go_quiet (fail)
 go_wp2_with fail
 go_ret
 exact ⟨rfl, uh HBD _⟩
theorem l12MemberC (a3 : Option Addr) (d3 b off d4 : Nat) (a5 : Option Addr) (d5 : Nat) (a6 : Option Addr) (d6 : Nat) (x : DWorld) (k xb : Nat) (w : World) (hX : Box 0 #[.int .i64 x.now, .int .i64 x.events, .int .i64 x.chain.epoch, .slice a3 x.chain.ids.length d3, .slice (some ⟨b, off, none⟩) x.nodes.length d4, .slice a5 x.msgs.length d5, .slice a6 x.history.length d6] 36 w xb) (h : Lay.tWorld.Reads w [.int .i64 x.now, .int .i64 x.events, .int .i64 x.chain.epoch, .slice a3 x.chain.ids.length d3, .slice (some ⟨b, off, none⟩) x.nodes.length d4, .slice a5 x.msgs.length d5, .slice a6 x.history.length d6] x) (hk : k < x.nodes.length) (hn5 : x.nodes.length ≤ 5) :
  Calls Tryz.prog 62 #[.pointer (some ⟨xb, 0, none⟩), .int .i64 ((k : Int) + 1)] w fun e w' => e = .returned (.bool (memberB x ((k : Int) + 1))) ∧ Below w.heap.size w w' := by
 have HP : Hid (memberB x ((k : Int) + 1) = (x.nodes[k].up && ((x.nodes[k].epoch == x.chain.epoch) && decide (0 ≤ placeC x.chain.ids ((k : Int) + 1))))) := by
  show memberB x ((k : Int) + 1) = _
  rw [memberB, nodeOf_at hk]
 obtain ⟨_, _, _, _, _, _, _, _, hq, RC, RN, -, -⟩ := open_World h
 simp only [List.cons.injEq, Value.slice.injEq, and_true, true_and] at hq
 obtain ⟨⟨rfl, rfl⟩, ⟨rfl, rfl⟩, -, -, -⟩ := hq
 obtain ⟨_, _, hq, RI⟩ := open_Chain RC
 simp only [List.cons.injEq, Value.slice.injEq, and_true, true_and] at hq
 obtain ⟨rfl, rfl⟩ := hq
 obtain ⟨row, hcl, hr⟩ := Lay.row_at RN hk
 obtain ⟨an, dn, rfl, -⟩ := open_Node hr
 have x1 : w.drew.cell? ⟨b, off + k * 7 + 1, none⟩ = some (.bool x.nodes[k].up) := hcl 1 (by decide)
 have x2 : w.drew.cell? ⟨b, off + k * 7 + 2, none⟩ = some (.int .i64 x.nodes[k].epoch) := hcl 2 (by decide)
 have z2 : w.drew.cell? ⟨xb, 2, none⟩ = some (.int .i64 x.chain.epoch) := Box.at hX 2 _ rfl
 have z3 : w.drew.cell? ⟨xb, 3, none⟩ = some (.slice a3 x.chain.ids.length d3) := Box.at hX 3 _ rfl
 have z4 := Box.at hX 4 _ rfl
 simp only [ga, gb, gc] at z4
 have zl := hX.lt
 have HL : Hid (Calls Tryz.prog 131 #[.pointer (some ⟨xb, 2, none⟩), .int .i64 ((k : Int) + 1)] w.drew fun e w' => e = .returned (.int .i64 (placeC x.chain.ids ((k : Int) + 1))) ∧ w' = w.drew) := l10AtO xb 2 a3 d3 x.chain ((k : Int) + 1) w.drew ⟨z2, z3⟩ (RI.drew 1)
 have HB : Hid (Below w.heap.size w w.drew) := (Below.refl _ _).drew
 have hw1 : IntKind.i64.wrap (k : Int) = (k : Int) := by
  rw [IntKind.wrap_i64]
  omega
 have hki : (k : Int) < (x.nodes.length : Int) := by omega
 have hki0 : (0 : Int) ≤ (k : Int) := by omega
 have hbl : b < w.heap.size := World.block_lt_of_cell? _ _ x1
 clear hX h RC RN RI hcl hr z3
 generalize memberB x ((k : Int) + 1) = r at *
 generalize x.nodes[k] = n at *
 generalize placeC x.chain.ids ((k : Int) + 1) = pp at *
 go_enter Tryz.func62, Tryz.ntmps62
 go_upto_region 2 with fail
 clear z4
 cases hup : n.up
 ·
  rw [hup] at x1 HP
  refine wp_region_noPanic ?_
  refine wp_region_held_drew (S := fun w' => w' = w.drew) (by kernel_rfl) rfl (fun zq => ?_)
  generalize w.drew = wD at zq x1 x2 z2 HL HB ⊢
  refine tkH 0 zq ?_
  refine tkH 1 zq ?_
  refine tkH 2 zq ?_
  refine tkJ 3 (v := ?va3) ?ha3 zq ?ra3
  case ha3 =>
   intro wS hSw
   subst hSw
   (try dsimp only at hSw)
   go_simp
   try with_reducible rfl
  refine tkH 4 zq ?_
  refine skH 5 zq ?_
  refine skH 6 zq ?_
  refine skH 7 zq ?_
  refine skH 8 zq ?_
  refine skH 9 zq ?_
  refine skH 10 zq ?_
  refine skH 11 zq ?_
  refine skH 12 zq ?_
  refine skH 13 zq ?_
  refine skH 14 zq ?_
  refine tkH 15 zq ?_
  refine tkH 16 zq ?_
  refine skH 17 zq ?_
  refine skH 18 zq ?_
  refine skH 19 zq ?_
  refine skH 20 zq ?_
  refine skH 21 zq ?_
  refine skH 22 zq ?_
  refine tkH 23 zq ?_
  refine tkH 24 zq ?_
  refine wpAnyH_done (by kernel_rfl) ?_ _
  refine NoPanic.normal ?_
  clear zq
  go_wp2_with fail
  go_ret
  exact ⟨by rw [uh HP]; rfl, uh HB⟩
 rw [hup] at x1 HP
 cases hep : (n.epoch == x.chain.epoch)
 ·
  rw [hep] at HP
  refine wp_region_noPanic ?_
  refine wp_region_held_drew (S := fun w' => w' = w.drew) (by kernel_rfl) rfl (fun zq => ?_)
  generalize w.drew = wD at zq x1 x2 z2 HL HB ⊢
  refine tkH 0 zq ?_
  refine tkH 1 zq ?_
  refine tkH 2 zq ?_
  refine tkJ 3 (v := ?vb3) ?hb3 zq ?rb3
  case hb3 =>
   intro wS hSw
   subst hSw
   (try dsimp only at hSw)
   go_simp
   try with_reducible rfl
  refine tkH 4 zq ?_
  refine tkH 5 zq ?_
  refine tkH 6 zq ?_
  refine tkH 7 zq ?_
  refine tkJ 8 (v := ?vb8) ?hb8 zq ?rb8
  case hb8 =>
   intro wS hSw
   subst hSw
   (try dsimp only at hSw)
   go_simp
   try with_reducible rfl
  refine tkH 9 zq ?_
  refine tkH 10 zq ?_
  refine tkH 11 zq ?_
  refine tkH 12 zq ?_
  refine tkJ 13 (v := ?vb13) ?hb13 zq ?rb13
  case hb13 =>
   intro wS hSw
   subst hSw
   (try dsimp only at hSw)
   go_simp
   try with_reducible rfl
  refine tkH 14 zq ?_
  refine tkH 15 zq ?_
  refine tkH 16 zq ?_
  refine skH 17 zq ?_
  refine skH 18 zq ?_
  refine skH 19 zq ?_
  refine skH 20 zq ?_
  refine skH 21 zq ?_
  refine skH 22 zq ?_
  refine tkH 23 zq ?_
  refine tkH 24 zq ?_
  refine wpAnyH_done (by kernel_rfl) ?_ _
  refine NoPanic.normal ?_
  clear zq
  go_wp2_with fail
  go_ret
  exact ⟨by rw [uh HP]; rfl, uh HB⟩
 rw [hep] at HP
 refine wp_region_noPanic ?_
 refine wp_region_held_drew (S := fun w' => w' = w.drew) (by kernel_rfl) rfl (fun zq => ?_)
 generalize w.drew = wD at zq x1 x2 z2 HL HB ⊢
 refine tkH 0 zq ?_
 refine tkH 1 zq ?_
 refine tkH 2 zq ?_
 refine tkJ 3 (v := ?vc3) ?hc3 zq ?rc3
 case hc3 =>
  intro wS hSw
  subst hSw
  (try dsimp only at hSw)
  go_simp
  try with_reducible rfl
 refine tkH 4 zq ?_
 refine tkH 5 zq ?_
 refine tkH 6 zq ?_
 refine tkH 7 zq ?_
 refine tkJ 8 (v := ?vc8) ?hc8 zq ?rc8
 case hc8 =>
  intro wS hSw
  subst hSw
  (try dsimp only at hSw)
  go_simp
  try with_reducible rfl
 refine tkH 9 zq ?_
 refine tkH 10 zq ?_
 refine tkH 11 zq ?_
 refine tkH 12 zq ?_
 refine tkJ 13 (v := ?vc13) ?hc13 zq ?rc13
 case hc13 =>
  intro wS hSw
  subst hSw
  (try dsimp only at hSw)
  go_simp
  try with_reducible rfl
 refine tkH 14 zq ?_
 refine tkH 15 zq ?_
 refine tkH 16 zq ?_
 refine tkH 17 zq ?_
 refine tkH 18 zq ?_
 refine tkH 19 zq ?_
 refine tkH 20 zq ?_
 refine rdH 21 (fun K hK => ?_)
 go_simp
 go_at_call 131
 refine (uh HL).mono ?_
 rintro e w2 ⟨rfl, rfl⟩
 try go_wp2_with fail
 refine hK.out _ _ rfl (fun zq => ?_)
 clear hK K
 try simp only [Act.put, pz, py, px]
 refine tkH 22 zq ?_
 refine tkH 23 zq ?_
 refine tkH 24 zq ?_
 refine wpAnyH_done (by kernel_rfl) ?_ _
 refine NoPanic.normal ?_
 clear zq
 go_wp2_with fail
 go_ret
 exact ⟨by rw [uh HP]; rfl, uh HB⟩
end Go.Proofs.YtoanimpijfijgaaGreat
