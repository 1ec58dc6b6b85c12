/-
  Texts of this proof in one: ImplWF, OwnNode, ImplClone, CloneC, ImplCopied, CopyNs, OwnEntry, AppHit, LayMore, AppHitsL, LayPart, CloneH, CopyHs, ImplCopiedM, ImplWC, ImplDone, ImplStepped, FacePlain, SpecMember, RowIn.
  Their conditions stand in their theorems.
-/
import Derived.Test.YtoanimpijfijgaaGreatMa08
import Derived.Deep.CutRange
import Derived.Test.YtoanimpijfijgaaGreatMa00
import Derived.Test.YtoanimpijfijgaaGreatMa01
import Derived.Test.YtoanimpijfijgaaGreatChecked
import Derived.BigQuiet
import Derived.Deep.QuietTactic
import Derived.WalkSmall
import Derived.Test.YtoanimpijfijgaaGreatMa05
import Derived.WalkKit
import Derived.Test.YtoanimpijfijgaaGreatMa06
import Derived.Maps.AppendAt
import Derived.Defers
import Derived.Recover
import Derived.Laws.Pointers
import Derived.Deep.RegionHeld3
set_option maxRecDepth 100000
set_option maxHeartbeats 4000000
namespace Go.Proofs.YtoanimpijfijgaaGreat
open Go.RowKit
theorem isNobodyC (a3 : Option Addr) (d3 : Nat) (a4 : Option Addr) (d4 : Nat) (a5 : Option Addr) (d5 : Nat) (a6 : Option Addr) (d6 : Nat) (x : DWorld) (id : Int) (g : Nat) (w : World) (h : Lay.tWorld.Reads w [.int .i64 x.now, .int .i64 x.events, .int .i64 x.chain.epoch, .slice a3 x.chain.ids.length d3, .slice a4 x.nodes.length d4, .slice a5 x.msgs.length d5, .slice a6 x.history.length d6] x) (hx : Box 0 #[.int .i64 x.now, .int .i64 x.events, .int .i64 x.chain.epoch, .slice a3 x.chain.ids.length d3, .slice a4 x.nodes.length d4, .slice a5 x.msgs.length d5, .slice a6 x.history.length d6] 36 w g) :
  Calls Tryz.prog 158 #[.int .i64 id, .pointer (some ⟨g, 0, none⟩)] w fun e w' => e = .returned (.bool (!nodeIn x id)) ∧ Below w.heap.size w w' := by
 have HL := yh (hasNodeC _ x id w h)
 have z0 := Box.at hx 0 _ rfl
 have z1 := Box.at hx 1 _ rfl
 have z2 := Box.at hx 2 _ rfl
 have z3 := Box.at hx 3 _ rfl
 have z4 := Box.at hx 4 _ rfl
 have z5 := Box.at hx 5 _ rfl
 have z6 := Box.at hx 6 _ rfl
 simp only [ga, gb, gc] at z0 z1 z2 z3 z4 z5 z6
 clear h
 go_enter Tryz.func158, Tryz.ntmps158
 go_wp2_with fail
 refine (uh HL).mono ?_
 rintro e w1 ⟨rfl, hb⟩
 have HB := yh hb
 clear hb HL z0 z1 z2 z3 z4 z5 z6
 go_wp2_with fail
 go_ret
 exact ⟨rfl, uh HB⟩
theorem indexNobody (a3 : Option Addr) (d3 : Nat) (a4 : Option Addr) (d4 : Nat) (a5 : Option Addr) (d5 : Nat) (a6 : Option Addr) (d6 : Nat) (x : DWorld) (v : Value) (ids : List Int) (g : Nat) (w : World) (h : Lay.tWorld.Reads w [.int .i64 x.now, .int .i64 x.events, .int .i64 x.chain.epoch, .slice a3 x.chain.ids.length d3, .slice a4 x.nodes.length d4, .slice a5 x.msgs.length d5, .slice a6 x.history.length d6] x) (hx : Box 0 #[.int .i64 x.now, .int .i64 x.events, .int .i64 x.chain.epoch, .slice a3 x.chain.ids.length d3, .slice a4 x.nodes.length d4, .slice a5 x.msgs.length d5, .slice a6 x.history.length d6] 36 w g) (R : (Lay.sl Lay.int).Reads w [v] ids) :
  Calls Tryz.prog 230 #[v, .func (.func 158) #[] #[.pointer (some ⟨g, 0, none⟩)]] w fun e w' => ∃ i : Int, e = .returned (.int .i64 i) ∧ decide (0 ≤ i) = !(ids.all (nodeIn x)) ∧ Below w.heap.size w w' := by
 have hbig := R.big
 obtain ⟨ao, cap, rfl⟩ := open_sl R
 have H := yh R
 have HX := yh h
 have HBX := yh hx
 clear h hx R
 go_enter Tryz.func230, Tryz.ntmps230
 go_wp2_with fail
 go_loopw [8] (fun i wr => ∃ k : Nat, k ≤ ids.length ∧ i = .int .i64 k ∧ (∀ j (hj : j < ids.length), j < k → nodeIn x ids[j] = true) ∧ Below w.heap.size w wr) (fun i _ => ids.length - (intOf i).toNat)
 case atStart => exact ⟨0, Nat.zero_le _, rfl, fun j _ hj => by omega, Below.refl _ _⟩
 case round =>
  obtain ⟨k, hk, rfl, hz, hB⟩ := hrel
  by_cases hlt : k < ids.length
  ·
   obtain ⟨b, off, rfl, hbl⟩ := Lay.sl_addr (uh H) (by omega)
   have c1 := (hB.cell (p := ⟨b, off + k, none⟩) hbl).trans (int_cell (uh H) hlt)
   have hdl : decide ((k : Int) < (ids.length : Int)) = true := by simp; omega
   have HL := yh (isNobodyC a3 d3 a4 d4 a5 d5 a6 d6 x ids[k] g wr ((uh HX).later hB) ((uh HBX).keep hB))
   have HA : Hid (nodeIn x ids[k] = false → (!(ids.all (nodeIn x))) = true) := fun q => by
    have : ids.all (nodeIn x) = false := by rw [List.all_eq_false]; exact ⟨ids[k], List.getElem_mem _, by rw [q]; simp⟩
    rw [this]; rfl
   have HN : Hid (nodeIn x ids[k] = true → ∀ j (hj : j < ids.length), j < k + 1 → nodeIn x ids[j] = true) := fun q j hj hjk => by
    by_cases h2 : j < k
    ·
     exact hz j hj h2
    obtain rfl : j = k := by omega
    exact q
   have HB := yh hB
   clear hz hB
   generalize hy : ids[k] = y at *
   clear hy
   go_wp2_with fail
   refine (uh HL).mono ?_
   rintro e w2 ⟨rfl, hb⟩
   replace HB := yh ((uh HB).trans (hb.mono (uh HB).size))
   clear hb HL c1
   cases hq : nodeIn x y
   ·
    have HAA := yh (uh HA hq)
    clear HN HA hq
    go_wp2_with fail
    go_ret
    exact ⟨(k : Int), rfl, by rw [uh HAA]; simp, uh HB⟩
   have HNN := yh (uh HN hq)
   clear HN HA hq
   go_wp2_with fail
   go_roundw
   case rel => exact ⟨k + 1, by omega, by go_num, uh HNN, uh HB⟩
   case measure => simp [intOf]; omega
  obtain rfl : k = ids.length := by omega
  have hdl : decide ((ids.length : Int) < (ids.length : Int)) = false := by simp
  have HB := yh hB
  have HZ : Hid (ids.all (nodeIn x) = true) := List.all_eq_true.2 fun y hy => by
   obtain ⟨j, hj, rfl⟩ := List.getElem_of_mem hy
   exact hz j hj hj
  clear hz hB
  go_wp2_with fail
  go_ret
  exact ⟨-1, rfl, by rw [uh HZ]; simp, uh HB⟩
theorem containsNobody (a3 : Option Addr) (d3 : Nat) (a4 : Option Addr) (d4 : Nat) (a5 : Option Addr) (d5 : Nat) (a6 : Option Addr) (d6 : Nat) (x : DWorld) (v : Value) (ids : List Int) (g : Nat) (w : World) (h : Lay.tWorld.Reads w [.int .i64 x.now, .int .i64 x.events, .int .i64 x.chain.epoch, .slice a3 x.chain.ids.length d3, .slice a4 x.nodes.length d4, .slice a5 x.msgs.length d5, .slice a6 x.history.length d6] x) (hx : Box 0 #[.int .i64 x.now, .int .i64 x.events, .int .i64 x.chain.epoch, .slice a3 x.chain.ids.length d3, .slice a4 x.nodes.length d4, .slice a5 x.msgs.length d5, .slice a6 x.history.length d6] 36 w g) (R : (Lay.sl Lay.int).Reads w [v] ids) :
  Calls Tryz.prog 159 #[v, .func (.func 158) #[] #[.pointer (some ⟨g, 0, none⟩)]] w fun e w' => e = .returned (.bool (!(ids.all (nodeIn x)))) ∧ Below w.heap.size w w' := by
 have HL := yh (indexNobody a3 d3 a4 d4 a5 d5 a6 d6 x v ids g w h hx R)
 obtain ⟨ao, cap, rfl⟩ := open_sl R
 clear h hx R
 go_enter Tryz.func159, Tryz.ntmps159
 go_wp2_with fail
 refine (uh HL).mono ?_
 rintro e w1 ⟨i, rfl, hi, hb⟩
 have HI := yh hi
 have HB := yh hb
 clear hb HL hi
 go_wp2_with fail
 go_ret
 exact ⟨by rw [← uh HI]; rfl, uh HB⟩
theorem wf_eq (x : DWorld) : worldFault x = if (decide (0 ≤ x.now) && decide (x.now ≤ 9000)) = false ∨ (decide (0 ≤ x.events) && decide (x.events ≤ 9999)) = false then 3
  else if chainFault x.chain ≠ 0 then chainFault x.chain else if nodesP x.chain x.nodes ≠ 0 then nodesP x.chain x.nodes else if (!(x.chain.ids.all (nodeIn x))) = true then 4
  else if netFault x.msgs ≠ 0 then netFault x.msgs else histP x.events x.history := by
 have e1 : (¬ (0 ≤ x.now ∧ x.now ≤ 9000) ∨ ¬ (0 ≤ x.events ∧ x.events ≤ 9999)) ↔ ((decide (0 ≤ x.now) && decide (x.now ≤ 9000)) = false ∨ (decide (0 ≤ x.events) && decide (x.events ≤ 9999)) = false) := by
  simp only [Bool.and_eq_false_iff, decide_eq_false_iff_not]
  omega
 unfold worldFault
 by_cases h1 : (decide (0 ≤ x.now) && decide (x.now ≤ 9000)) = false ∨ (decide (0 ≤ x.events) && decide (x.events ≤ 9999)) = false
 ·
  rw [if_pos (e1.2 h1), if_pos h1]
 rw [if_neg (fun q => h1 (e1.1 q)), if_neg h1]
 by_cases h2 : chainFault x.chain ≠ 0
 ·
  rw [if_pos h2, if_pos h2]
 rw [if_neg h2, if_neg h2]
 by_cases h3 : x.nodes.length < 1 ∨ 5 < x.nodes.length
 ·
  have hP : nodesP x.chain x.nodes = 2 := if_neg (by omega)
  rw [if_pos h3, hP, if_pos (show ((2 : Int) ≠ 0) by omega)]
 have hP : nodesP x.chain x.nodes = nodesF x.chain 0 x.nodes := if_pos (by omega)
 rw [if_neg h3, hP]
 unfold nodesFault
 by_cases h4 : nodesF x.chain 0 x.nodes ≠ 0
 ·
  rw [if_pos h4, if_pos h4, if_pos h4]
 rw [if_neg h4, if_neg h4]
 cases h5 : x.chain.ids.all (nodeIn x)
 ·
  simp
 simp only [if_true, Bool.not_true, ne_eq, not_true_eq_false, if_false]
 by_cases h6 : netFault x.msgs ≠ 0
 ·
  rw [if_pos h6, if_pos h6]; simp
 rw [if_neg h6, if_neg h6]
 rfl
theorem implWorldFault (cs : List Value) (x : DWorld) (w : World) (h : Lay.tWorld.Reads w cs x) :
  Calls Tryz.prog 85 #[.agg cs.toArray] w fun e w' => e = .returned (.int .i64 (worldFault x)) ∧ Below w.heap.size w w' := by
 obtain ⟨a3, d3, a4, d4, a5, d5, a6, d6, rfl, RC, RN, RM, RE⟩ := open_World h
 have nb : Below w.heap.size w (w.alloc (.cells #[.int .i64 x.now, .int .i64 x.events, .int .i64 x.chain.epoch, .slice a3 x.chain.ids.length d3, .slice a4 x.nodes.length d4, .slice a5 x.msgs.length d5, .slice a6 x.history.length d6] 36)) := (Below.refl _ _).alloc (Nat.le_refl _) _
 have HX : Hid (Box 0 #[.int .i64 x.now, .int .i64 x.events, .int .i64 x.chain.epoch, .slice a3 x.chain.ids.length d3, .slice a4 x.nodes.length d4, .slice a5 x.msgs.length d5, .slice a6 x.history.length d6] 36 (w.alloc (.cells #[.int .i64 x.now, .int .i64 x.events, .int .i64 x.chain.epoch, .slice a3 x.chain.ids.length d3, .slice a4 x.nodes.length d4, .slice a5 x.msgs.length d5, .slice a6 x.history.length d6] 36)) w.heap.size) := newBox (Nat.zero_le _)
 have HR := yh (h.later nb)
 have HP := yh (wf_eq x)
 have HB := yh nb
 have hmf : ∀ (fn : Fn) (first cap : Array Value) (w : World), (Instr.makeFunc fn first cap).run Tryz.prog w = .ok (.func fn first cap) w := fun _ _ _ _ => rfl
 clear nb h RC RN RM RE
 generalize worldFault x = r at *
 go_enter Tryz.func85, Tryz.ntmps85
 go_upto_region 1 with fail
 generalize w.alloc (.cells #[.int .i64 x.now, .int .i64 x.events, .int .i64 x.chain.epoch, .slice a3 x.chain.ids.length d3, .slice a4 x.nodes.length d4, .slice a5 x.msgs.length d5, .slice a6 x.history.length d6] 36) = w1 at *
 have z0 := Box.at (uh HX) 0 _ rfl
 have z1 := Box.at (uh HX) 1 _ rfl
 have z2 := Box.at (uh HX) 2 _ rfl
 have z3 := Box.at (uh HX) 3 _ rfl
 have z4 := Box.at (uh HX) 4 _ rfl
 have z5 := Box.at (uh HX) 5 _ rfl
 have z6 := Box.at (uh HX) 6 _ rfl
 simp only [ga, gb, gc] at z0 z1 z2 z3 z4 z5 z6
 go_wp2_with fail
 refine (isUpToC x.now 9000 w1).mono ?_
 rintro e w2 ⟨rfl, h2⟩
 subst w2
 cases d1 : (decide (0 ≤ x.now) && decide (x.now ≤ 9000))
 ·
  replace HP := yh ((uh HP).trans (if_pos (Or.inl d1)))
  clear d1
  go_wp2_with fail
  go_ret
  exact ⟨by rw [uh HP]; rfl, uh HB⟩
 go_wp2_with fail
 refine (isUpToC x.events 9999 w1).mono ?_
 rintro e w2 ⟨rfl, h2⟩
 subst w2
 cases d2 : (decide (0 ≤ x.events) && decide (x.events ≤ 9999))
 ·
  replace HP := yh ((uh HP).trans (if_pos (Or.inr d2)))
  clear d1 d2
  go_wp2_with fail
  go_ret
  exact ⟨by rw [uh HP]; rfl, uh HB⟩
 replace HP := yh ((uh HP).trans (if_neg (by rw [d1, d2]; simp)))
 clear d1 d2
 go_wp2_with fail
 obtain ⟨_, _, _, _, _, _, _, _, hq, RC, -, -, -⟩ := open_World (uh HR)
 simp only [List.cons.injEq, Value.slice.injEq, and_true, true_and] at hq
 obtain ⟨⟨rfl, rfl⟩, ⟨rfl, rfl⟩, ⟨rfl, rfl⟩, rfl, rfl⟩ := hq
 refine (implChainFault _ x.chain w1 RC).mono ?_
 rintro e w2 ⟨rfl, hb⟩
 clear RC z0 z1 z2 z3 z4 z5 z6
 replace HX := yh ((uh HX).keep hb)
 replace HR := yh ((uh HR).later hb)
 replace HB := yh ((uh HB).trans (hb.mono (uh HB).size))
 clear hb
 have z0 := Box.at (uh HX) 0 _ rfl
 have z1 := Box.at (uh HX) 1 _ rfl
 have z2 := Box.at (uh HX) 2 _ rfl
 have z3 := Box.at (uh HX) 3 _ rfl
 have z4 := Box.at (uh HX) 4 _ rfl
 have z5 := Box.at (uh HX) 5 _ rfl
 have z6 := Box.at (uh HX) 6 _ rfl
 simp only [ga, gb, gc] at z0 z1 z2 z3 z4 z5 z6
 by_cases d3 : chainFault x.chain ≠ 0
 ·
  have hd : (chainFault x.chain != 0) = true := by simpa using d3
  replace HP := yh ((uh HP).trans (if_pos d3))
  clear d3
  generalize chainFault x.chain = c at *
  go_wp2_with fail
  go_ret
  exact ⟨by rw [uh HP]; rfl, uh HB⟩
 replace HP := yh ((uh HP).trans (if_neg d3))
 have hd : chainFault x.chain = 0 := by simpa using d3
 clear d3
 rw [hd]
 clear hd
 go_wp2_with fail
 obtain ⟨_, _, _, _, _, _, _, _, hq, RC, RN, -, -⟩ := open_World (uh HR)
 simp only [List.cons.injEq, Value.slice.injEq, and_true, true_and] at hq
 obtain ⟨⟨rfl, rfl⟩, ⟨rfl, rfl⟩, ⟨rfl, rfl⟩, rfl, rfl⟩ := hq
 refine (nodesFaultC _ x.chain _ x.nodes w2 RC RN).mono ?_
 rintro e w3 ⟨rfl, hb⟩
 clear RC RN z0 z1 z2 z3 z4 z5 z6
 replace HX := yh ((uh HX).keep hb)
 replace HR := yh ((uh HR).later hb)
 replace HB := yh ((uh HB).trans (hb.mono (uh HB).size))
 clear hb
 have z0 := Box.at (uh HX) 0 _ rfl
 have z1 := Box.at (uh HX) 1 _ rfl
 have z2 := Box.at (uh HX) 2 _ rfl
 have z3 := Box.at (uh HX) 3 _ rfl
 have z4 := Box.at (uh HX) 4 _ rfl
 have z5 := Box.at (uh HX) 5 _ rfl
 have z6 := Box.at (uh HX) 6 _ rfl
 simp only [ga, gb, gc] at z0 z1 z2 z3 z4 z5 z6
 by_cases d3 : nodesP x.chain x.nodes ≠ 0
 ·
  have hd : (nodesP x.chain x.nodes != 0) = true := by simpa using d3
  replace HP := yh ((uh HP).trans (if_pos d3))
  clear d3
  generalize nodesP x.chain x.nodes = c at *
  go_wp2_with fail
  go_ret
  exact ⟨by rw [uh HP]; rfl, uh HB⟩
 replace HP := yh ((uh HP).trans (if_neg d3))
 have hd : nodesP x.chain x.nodes = 0 := by simpa using d3
 clear d3
 rw [hd]
 clear hd
 go_wp2_with fail
 obtain ⟨_, _, _, _, _, _, _, _, hq, RC, -, -, -⟩ := open_World (uh HR)
 simp only [List.cons.injEq, Value.slice.injEq, and_true, true_and] at hq
 obtain ⟨⟨rfl, rfl⟩, ⟨rfl, rfl⟩, ⟨rfl, rfl⟩, rfl, rfl⟩ := hq
 obtain ⟨_, _, hq, RI⟩ := open_Chain RC
 simp only [List.cons.injEq, Value.slice.injEq, and_true, true_and] at hq
 obtain ⟨rfl, rfl⟩ := hq
 refine (containsNobody a3 d3 a4 d4 a5 d5 a6 d6 x _ x.chain.ids w.heap.size w3 (uh HR) (uh HX) RI).mono ?_
 rintro e w4 ⟨rfl, hb⟩
 clear RC RI z0 z1 z2 z3 z4 z5 z6
 replace HX := yh ((uh HX).keep hb)
 replace HR := yh ((uh HR).later hb)
 replace HB := yh ((uh HB).trans (hb.mono (uh HB).size))
 clear hb
 have z0 := Box.at (uh HX) 0 _ rfl
 have z1 := Box.at (uh HX) 1 _ rfl
 have z2 := Box.at (uh HX) 2 _ rfl
 have z3 := Box.at (uh HX) 3 _ rfl
 have z4 := Box.at (uh HX) 4 _ rfl
 have z5 := Box.at (uh HX) 5 _ rfl
 have z6 := Box.at (uh HX) 6 _ rfl
 simp only [ga, gb, gc] at z0 z1 z2 z3 z4 z5 z6
 cases d3 : x.chain.ids.all (nodeIn x)
 ·
  replace HP := yh ((uh HP).trans (if_pos (by rw [d3]; rfl)))
  clear d3
  go_wp2_with fail
  go_ret
  exact ⟨by rw [uh HP]; rfl, uh HB⟩
 replace HP := yh ((uh HP).trans (if_neg (by rw [d3]; simp)))
 clear d3
 go_wp2_with fail
 obtain ⟨_, _, _, _, _, _, _, _, hq, -, -, RM, -⟩ := open_World (uh HR)
 simp only [List.cons.injEq, Value.slice.injEq, and_true, true_and] at hq
 obtain ⟨⟨rfl, rfl⟩, ⟨rfl, rfl⟩, ⟨rfl, rfl⟩, rfl, rfl⟩ := hq
 refine (implNetFault _ x.msgs w4 RM).mono ?_
 rintro e w5 ⟨rfl, hb⟩
 clear RM z0 z1 z2 z3 z4 z5 z6
 replace HX := yh ((uh HX).keep hb)
 replace HR := yh ((uh HR).later hb)
 replace HB := yh ((uh HB).trans (hb.mono (uh HB).size))
 clear hb
 have z0 := Box.at (uh HX) 0 _ rfl
 have z1 := Box.at (uh HX) 1 _ rfl
 have z2 := Box.at (uh HX) 2 _ rfl
 have z3 := Box.at (uh HX) 3 _ rfl
 have z4 := Box.at (uh HX) 4 _ rfl
 have z5 := Box.at (uh HX) 5 _ rfl
 have z6 := Box.at (uh HX) 6 _ rfl
 simp only [ga, gb, gc] at z0 z1 z2 z3 z4 z5 z6
 by_cases d3 : netFault x.msgs ≠ 0
 ·
  have hd : (netFault x.msgs != 0) = true := by simpa using d3
  replace HP := yh ((uh HP).trans (if_pos d3))
  clear d3
  generalize netFault x.msgs = c at *
  go_wp2_with fail
  go_ret
  exact ⟨by rw [uh HP]; rfl, uh HB⟩
 replace HP := yh ((uh HP).trans (if_neg d3))
 have hd : netFault x.msgs = 0 := by simpa using d3
 clear d3
 rw [hd]
 clear hd
 go_wp2_with fail
 obtain ⟨_, _, _, _, _, _, _, _, hq, -, -, -, RE⟩ := open_World (uh HR)
 simp only [List.cons.injEq, Value.slice.injEq, and_true, true_and] at hq
 obtain ⟨⟨rfl, rfl⟩, ⟨rfl, rfl⟩, ⟨rfl, rfl⟩, rfl, rfl⟩ := hq
 refine (historyFaultC _ x.history x.events w5 RE).mono ?_
 rintro e w6 ⟨rfl, hb⟩
 replace HB := yh ((uh HB).trans (hb.mono (uh HB).size))
 clear RE hb z0 z1 z2 z3 z4 z5 z6
 go_wp2_with fail
 go_ret
 exact ⟨by rw [uh HP]; rfl, uh HB⟩
theorem nodeIn_at {x : DWorld} {id : Int} (h : nodeIn x id = true) : ∃ k, ∃ _ : k < x.nodes.length, id = (k : Int) + 1 := by
 simp only [nodeIn, Bool.and_eq_true, decide_eq_true_eq] at h
 exact ⟨(id - 1).toNat, by omega, by omega⟩
theorem nodeOf_at {x : DWorld} {k : Nat} (hk : k < x.nodes.length) : nodeOf x ((k : Int) + 1) = x.nodes[k] := by
 have : ((k : Int) + 1 - 1).toNat = k := by omega
 rw [nodeOf, this]
 simp [List.getD, hk]
abbrev o139x1 : Oper := ⟨some 13, .move (.tmp 5), 113, "l12_world.go:98", #[], none⟩
abbrev o139x2 : Oper := ⟨some 14, .nilCheck (.tmp 13), 0, "l12_world.go:98", #[⟨0, .data⟩], none⟩
abbrev o139x3 : Oper := ⟨some 15, .fieldAddr 84 (.tmp 14) 1, 0, "l12_world.go:98", #[⟨1, .data⟩], none⟩
abbrev o139x4 : Oper := ⟨some 16, .load 4 (.tmp 15), 4, "l12_world.go:98", #[⟨2, .data⟩], none⟩
abbrev o139x5 : Oper := ⟨some 17, .move (.tmp 16), 4, "l12_world.go:98", #[⟨3, .data⟩], none⟩
abbrev o139x6 : Oper := ⟨some 18, .move (.tmp 5), 113, "l12_world.go:98", #[⟨4, .guard⟩], some (4, true)⟩
abbrev o139x7 : Oper := ⟨some 19, .nilCheck (.tmp 18), 0, "l12_world.go:98", #[⟨5, .data⟩, ⟨4, .guard⟩], some (4, true)⟩
abbrev o139x8 : Oper := ⟨some 20, .fieldAddr 84 (.tmp 19) 2, 0, "l12_world.go:98", #[⟨6, .data⟩, ⟨4, .guard⟩], some (4, true)⟩
abbrev o139x9 : Oper := ⟨some 21, .load 2 (.tmp 20), 2, "l12_world.go:98", #[⟨7, .data⟩, ⟨4, .guard⟩], some (4, true)⟩
abbrev o139x10 : Oper := ⟨some 22, .move (.tmp 0), 76, "l12_world.go:98", #[⟨4, .guard⟩], some (4, true)⟩
abbrev o139x11 : Oper := ⟨some 23, .nilCheck (.tmp 22), 0, "l12_world.go:98", #[⟨9, .data⟩, ⟨4, .guard⟩], some (4, true)⟩
abbrev o139x12 : Oper := ⟨some 24, .fieldAddr 36 (.tmp 23) 2, 0, "l12_world.go:98", #[⟨10, .data⟩, ⟨4, .guard⟩], some (4, true)⟩
abbrev o139x13 : Oper := ⟨some 25, .fieldAddr 31 (.tmp 24) 0, 0, "l12_world.go:98", #[⟨11, .data⟩, ⟨4, .guard⟩], some (4, true)⟩
abbrev o139x14 : Oper := ⟨some 26, .load 2 (.tmp 25), 2, "l12_world.go:98", #[⟨12, .data⟩, ⟨4, .guard⟩], some (4, true)⟩
abbrev o139x15 : Oper := ⟨some 27, .binOp .eql 2 (.tmp 21) (.tmp 26) 2, 4, "l12_world.go:98", #[⟨8, .data⟩, ⟨13, .data⟩, ⟨4, .guard⟩], some (4, true)⟩
abbrev o139x16 : Oper := ⟨some 28, .pick (.tmp 17) (.tmp 27) (.const (.bool false)), 4, "l12_world.go:98", #[⟨4, .data⟩, ⟨14, .data⟩], none⟩
abbrev o139x17 : Oper := ⟨some 29, .move (.tmp 28), 4, "l12_world.go:98", #[⟨15, .data⟩, ⟨4, .chain⟩], none⟩
abbrev o139x18 : Oper := ⟨some 30, .move (.tmp 0), 76, "l12_world.go:98", #[⟨16, .guard⟩], some (16, true)⟩
abbrev o139x19 : Oper := ⟨some 31, .nilCheck (.tmp 30), 0, "l12_world.go:98", #[⟨17, .data⟩, ⟨16, .guard⟩], some (16, true)⟩
abbrev o139x20 : Oper := ⟨some 32, .fieldAddr 36 (.tmp 31) 2, 0, "l12_world.go:98", #[⟨18, .data⟩, ⟨16, .guard⟩], some (16, true)⟩
abbrev o139x21 : Oper := ⟨some 33, .move (.tmp 1), 2, "l12_world.go:98", #[⟨16, .guard⟩], some (16, true)⟩
abbrev o139x22 : Oper := ⟨some 34, .call { callee := .value (.func 131), args := #[.tmp 32, .tmp 33], argTypes := #[80, 2] }, 3, "l12_world.go:98", #[⟨19, .data⟩, ⟨20, .data⟩, ⟨16, .chain⟩, ⟨16, .guard⟩], some (16, true)⟩
abbrev o139x23 : Oper := ⟨some 35, .binOp .geq 3 (.tmp 34) (.const (.int .i64 0)) 3, 4, "l12_world.go:98", #[⟨21, .data⟩, ⟨16, .guard⟩], some (16, true)⟩
abbrev o139x24 : Oper := ⟨some 36, .pick (.tmp 29) (.tmp 35) (.const (.bool false)), 4, "l12_world.go:98", #[⟨16, .data⟩, ⟨22, .data⟩], none⟩
abbrev o139x25 : Oper := ⟨some 4, .assign (.tmp 36), 4, "l12_world.go:98", #[⟨23, .data⟩, ⟨21, .chain⟩, ⟨0, .phase⟩, ⟨1, .phase⟩, ⟨2, .phase⟩, ⟨3, .phase⟩, ⟨4, .phase⟩, ⟨5, .phase⟩, ⟨6, .phase⟩, ⟨7, .phase⟩, ⟨8, .phase⟩, ⟨9, .phase⟩, ⟨10, .phase⟩, ⟨11, .phase⟩, ⟨12, .phase⟩, ⟨13, .phase⟩, ⟨14, .phase⟩, ⟨15, .phase⟩, ⟨16, .phase⟩, ⟨17, .phase⟩, ⟨18, .phase⟩, ⟨19, .phase⟩, ⟨20, .phase⟩, ⟨21, .phase⟩, ⟨22, .phase⟩, ⟨23, .phase⟩], none⟩
theorem l12MemberC (a3 : Option Addr) (d3 b off d4 : Nat) (a5 : Option Addr) (d5 : Nat) (a6 : Option Addr) (d6 : Nat) (x : DWorld) (k xb : Nat) (w : World) (hX : Box 0 #[.int .i64 x.now, .int .i64 x.events, .int .i64 x.chain.epoch, .slice a3 x.chain.ids.length d3, .slice (some ⟨b, off, none⟩) x.nodes.length d4, .slice a5 x.msgs.length d5, .slice a6 x.history.length d6] 36 w xb) (h : Lay.tWorld.Reads w [.int .i64 x.now, .int .i64 x.events, .int .i64 x.chain.epoch, .slice a3 x.chain.ids.length d3, .slice (some ⟨b, off, none⟩) x.nodes.length d4, .slice a5 x.msgs.length d5, .slice a6 x.history.length d6] x) (hk : k < x.nodes.length) (hn5 : x.nodes.length ≤ 5) :
  Calls Tryz.prog 62 #[.pointer (some ⟨xb, 0, none⟩), .int .i64 ((k : Int) + 1)] w fun e w' => e = .returned (.bool (memberB x ((k : Int) + 1))) ∧ Below w.heap.size w w' := by
 have HP : Hid (memberB x ((k : Int) + 1) = (x.nodes[k].up && ((x.nodes[k].epoch == x.chain.epoch) && decide (0 ≤ placeC x.chain.ids ((k : Int) + 1))))) := by
  show memberB x ((k : Int) + 1) = _
  rw [memberB, nodeOf_at hk]
 obtain ⟨_, _, _, _, _, _, _, _, hq, RC, RN, -, -⟩ := open_World h
 simp only [List.cons.injEq, Value.slice.injEq, and_true, true_and] at hq
 obtain ⟨⟨rfl, rfl⟩, ⟨rfl, rfl⟩, -, -, -⟩ := hq
 obtain ⟨_, _, hq, RI⟩ := open_Chain RC
 simp only [List.cons.injEq, Value.slice.injEq, and_true, true_and] at hq
 obtain ⟨rfl, rfl⟩ := hq
 obtain ⟨row, hcl, hr⟩ := Lay.row_at RN hk
 obtain ⟨an, dn, rfl, -⟩ := open_Node hr
 have x1 : w.drew.cell? ⟨b, off + k * 7 + 1, none⟩ = some (.bool x.nodes[k].up) := hcl 1 (by decide)
 have x2 : w.drew.cell? ⟨b, off + k * 7 + 2, none⟩ = some (.int .i64 x.nodes[k].epoch) := hcl 2 (by decide)
 have z2 : w.drew.cell? ⟨xb, 2, none⟩ = some (.int .i64 x.chain.epoch) := Box.at hX 2 _ rfl
 have z3 : w.drew.cell? ⟨xb, 3, none⟩ = some (.slice a3 x.chain.ids.length d3) := Box.at hX 3 _ rfl
 have z4 := Box.at hX 4 _ rfl
 simp only [ga, gb, gc] at z4
 have zl := hX.lt
 have HL : Hid (Calls Tryz.prog 131 #[.pointer (some ⟨xb, 2, none⟩), .int .i64 ((k : Int) + 1)] w.drew fun e w' => e = .returned (.int .i64 (placeC x.chain.ids ((k : Int) + 1))) ∧ w' = w.drew) := l10AtO xb 2 a3 d3 x.chain ((k : Int) + 1) w.drew ⟨z2, z3⟩ (RI.drew 1)
 have HB : Hid (Below w.heap.size w w.drew) := (Below.refl _ _).drew
 have hw1 : IntKind.i64.wrap (k : Int) = (k : Int) := by
  rw [IntKind.wrap_i64]
  omega
 have hki : (k : Int) < (x.nodes.length : Int) := by omega
 have hki0 : (0 : Int) ≤ (k : Int) := by omega
 have hbl : b < w.heap.size := World.block_lt_of_cell? _ _ x1
 clear hX h RC RN RI hcl hr z3
 generalize memberB x ((k : Int) + 1) = r at *
 generalize x.nodes[k] = n at *
 generalize placeC x.chain.ids ((k : Int) + 1) = pp at *
 go_enter Tryz.func62, Tryz.ntmps62
 go_upto_region 2 with fail
 clear z4
 cases hup : n.up
 ·
  rw [hup] at x1 HP
  refine wp_region_noPanic ?_
  refine wp_region_held_drew (S := fun w' => w' = w.drew) (by kernel_rfl) rfl (fun zq => ?_)
  generalize w.drew = wD at zq x1 x2 z2 HL HB ⊢
  refine tkH (i := 0) (oi := o139x1) (v := ?va0) rfl ?ha0 zq ?ra0
  case ha0 => intro _ _; go_simp; try with_reducible rfl
  refine tkH (i := 1) (oi := o139x2) (v := ?va1) rfl ?ha1 zq ?ra1
  case ha1 => intro _ _; go_simp; try with_reducible rfl
  refine tkH (i := 2) (oi := o139x3) (v := ?va2) rfl ?ha2 zq ?ra2
  case ha2 => intro _ _; go_simp; try with_reducible rfl
  refine tkH (i := 3) (oi := o139x4) (v := ?va3) rfl ?ha3 zq ?ra3
  case ha3 =>
   intro wS hSw
   subst hSw
   (try dsimp only at hSw)
   go_simp
   try with_reducible rfl
  refine tkH (i := 4) (oi := o139x5) (v := ?va4) rfl ?ha4 zq ?ra4
  case ha4 => intro _ _; go_simp; try with_reducible rfl
  refine skH (i := 5) (oi := o139x6) rfl zq ?_
  refine skH (i := 6) (oi := o139x7) rfl zq ?_
  refine skH (i := 7) (oi := o139x8) rfl zq ?_
  refine skH (i := 8) (oi := o139x9) rfl zq ?_
  refine skH (i := 9) (oi := o139x10) rfl zq ?_
  refine skH (i := 10) (oi := o139x11) rfl zq ?_
  refine skH (i := 11) (oi := o139x12) rfl zq ?_
  refine skH (i := 12) (oi := o139x13) rfl zq ?_
  refine skH (i := 13) (oi := o139x14) rfl zq ?_
  refine skH (i := 14) (oi := o139x15) rfl zq ?_
  refine tkH (i := 15) (oi := o139x16) (v := ?va15) rfl ?ha15 zq ?ra15
  case ha15 => intro _ _; go_simp; try with_reducible rfl
  refine tkH (i := 16) (oi := o139x17) (v := ?va16) rfl ?ha16 zq ?ra16
  case ha16 => intro _ _; go_simp; try with_reducible rfl
  refine skH (i := 17) (oi := o139x18) rfl zq ?_
  refine skH (i := 18) (oi := o139x19) rfl zq ?_
  refine skH (i := 19) (oi := o139x20) rfl zq ?_
  refine skH (i := 20) (oi := o139x21) rfl zq ?_
  refine skH (i := 21) (oi := o139x22) rfl zq ?_
  refine skH (i := 22) (oi := o139x23) rfl zq ?_
  refine tkH (i := 23) (oi := o139x24) (v := ?va23) rfl ?ha23 zq ?ra23
  case ha23 => intro _ _; go_simp; try with_reducible rfl
  refine tkH (i := 24) (oi := o139x25) (v := ?va24) rfl ?ha24 zq ?ra24
  case ha24 => intro _ _; go_simp; try with_reducible rfl
  refine wpAnyH_done (by kernel_rfl) ?_ _
  refine NoPanic.normal ?_
  clear zq
  go_wp2_with fail
  go_ret
  exact ⟨by rw [uh HP]; rfl, uh HB⟩
 rw [hup] at x1 HP
 cases hep : (n.epoch == x.chain.epoch)
 ·
  rw [hep] at HP
  refine wp_region_noPanic ?_
  refine wp_region_held_drew (S := fun w' => w' = w.drew) (by kernel_rfl) rfl (fun zq => ?_)
  generalize w.drew = wD at zq x1 x2 z2 HL HB ⊢
  refine tkH (i := 0) (oi := o139x1) (v := ?vb0) rfl ?hb0 zq ?rb0
  case hb0 => intro _ _; go_simp; try with_reducible rfl
  refine tkH (i := 1) (oi := o139x2) (v := ?vb1) rfl ?hb1 zq ?rb1
  case hb1 => intro _ _; go_simp; try with_reducible rfl
  refine tkH (i := 2) (oi := o139x3) (v := ?vb2) rfl ?hb2 zq ?rb2
  case hb2 => intro _ _; go_simp; try with_reducible rfl
  refine tkH (i := 3) (oi := o139x4) (v := ?vb3) rfl ?hb3 zq ?rb3
  case hb3 =>
   intro wS hSw
   subst hSw
   (try dsimp only at hSw)
   go_simp
   try with_reducible rfl
  refine tkH (i := 4) (oi := o139x5) (v := ?vb4) rfl ?hb4 zq ?rb4
  case hb4 => intro _ _; go_simp; try with_reducible rfl
  refine tkH (i := 5) (oi := o139x6) (v := ?vb5) rfl ?hb5 zq ?rb5
  case hb5 => intro _ _; go_simp; try with_reducible rfl
  refine tkH (i := 6) (oi := o139x7) (v := ?vb6) rfl ?hb6 zq ?rb6
  case hb6 => intro _ _; go_simp; try with_reducible rfl
  refine tkH (i := 7) (oi := o139x8) (v := ?vb7) rfl ?hb7 zq ?rb7
  case hb7 => intro _ _; go_simp; try with_reducible rfl
  refine tkH (i := 8) (oi := o139x9) (v := ?vb8) rfl ?hb8 zq ?rb8
  case hb8 =>
   intro wS hSw
   subst hSw
   (try dsimp only at hSw)
   go_simp
   try with_reducible rfl
  refine tkH (i := 9) (oi := o139x10) (v := ?vb9) rfl ?hb9 zq ?rb9
  case hb9 => intro _ _; go_simp; try with_reducible rfl
  refine tkH (i := 10) (oi := o139x11) (v := ?vb10) rfl ?hb10 zq ?rb10
  case hb10 => intro _ _; go_simp; try with_reducible rfl
  refine tkH (i := 11) (oi := o139x12) (v := ?vb11) rfl ?hb11 zq ?rb11
  case hb11 => intro _ _; go_simp; try with_reducible rfl
  refine tkH (i := 12) (oi := o139x13) (v := ?vb12) rfl ?hb12 zq ?rb12
  case hb12 => intro _ _; go_simp; try with_reducible rfl
  refine tkH (i := 13) (oi := o139x14) (v := ?vb13) rfl ?hb13 zq ?rb13
  case hb13 =>
   intro wS hSw
   subst hSw
   (try dsimp only at hSw)
   go_simp
   try with_reducible rfl
  refine tkH (i := 14) (oi := o139x15) (v := ?vb14) rfl ?hb14 zq ?rb14
  case hb14 => intro _ _; go_simp; try with_reducible rfl
  refine tkH (i := 15) (oi := o139x16) (v := ?vb15) rfl ?hb15 zq ?rb15
  case hb15 => intro _ _; go_simp; try with_reducible rfl
  refine tkH (i := 16) (oi := o139x17) (v := ?vb16) rfl ?hb16 zq ?rb16
  case hb16 => intro _ _; go_simp; try with_reducible rfl
  refine skH (i := 17) (oi := o139x18) rfl zq ?_
  refine skH (i := 18) (oi := o139x19) rfl zq ?_
  refine skH (i := 19) (oi := o139x20) rfl zq ?_
  refine skH (i := 20) (oi := o139x21) rfl zq ?_
  refine skH (i := 21) (oi := o139x22) rfl zq ?_
  refine skH (i := 22) (oi := o139x23) rfl zq ?_
  refine tkH (i := 23) (oi := o139x24) (v := ?vb23) rfl ?hb23 zq ?rb23
  case hb23 => intro _ _; go_simp; try with_reducible rfl
  refine tkH (i := 24) (oi := o139x25) (v := ?vb24) rfl ?hb24 zq ?rb24
  case hb24 => intro _ _; go_simp; try with_reducible rfl
  refine wpAnyH_done (by kernel_rfl) ?_ _
  refine NoPanic.normal ?_
  clear zq
  go_wp2_with fail
  go_ret
  exact ⟨by rw [uh HP]; rfl, uh HB⟩
 rw [hep] at HP
 refine wp_region_noPanic ?_
 refine wp_region_held_drew (S := fun w' => w' = w.drew) (by kernel_rfl) rfl (fun zq => ?_)
 generalize w.drew = wD at zq x1 x2 z2 HL HB ⊢
 refine tkH (i := 0) (oi := o139x1) (v := ?vc0) rfl ?hc0 zq ?rc0
 case hc0 => intro _ _; go_simp; try with_reducible rfl
 refine tkH (i := 1) (oi := o139x2) (v := ?vc1) rfl ?hc1 zq ?rc1
 case hc1 => intro _ _; go_simp; try with_reducible rfl
 refine tkH (i := 2) (oi := o139x3) (v := ?vc2) rfl ?hc2 zq ?rc2
 case hc2 => intro _ _; go_simp; try with_reducible rfl
 refine tkH (i := 3) (oi := o139x4) (v := ?vc3) rfl ?hc3 zq ?rc3
 case hc3 =>
  intro wS hSw
  subst hSw
  (try dsimp only at hSw)
  go_simp
  try with_reducible rfl
 refine tkH (i := 4) (oi := o139x5) (v := ?vc4) rfl ?hc4 zq ?rc4
 case hc4 => intro _ _; go_simp; try with_reducible rfl
 refine tkH (i := 5) (oi := o139x6) (v := ?vc5) rfl ?hc5 zq ?rc5
 case hc5 => intro _ _; go_simp; try with_reducible rfl
 refine tkH (i := 6) (oi := o139x7) (v := ?vc6) rfl ?hc6 zq ?rc6
 case hc6 => intro _ _; go_simp; try with_reducible rfl
 refine tkH (i := 7) (oi := o139x8) (v := ?vc7) rfl ?hc7 zq ?rc7
 case hc7 => intro _ _; go_simp; try with_reducible rfl
 refine tkH (i := 8) (oi := o139x9) (v := ?vc8) rfl ?hc8 zq ?rc8
 case hc8 =>
  intro wS hSw
  subst hSw
  (try dsimp only at hSw)
  go_simp
  try with_reducible rfl
 refine tkH (i := 9) (oi := o139x10) (v := ?vc9) rfl ?hc9 zq ?rc9
 case hc9 => intro _ _; go_simp; try with_reducible rfl
 refine tkH (i := 10) (oi := o139x11) (v := ?vc10) rfl ?hc10 zq ?rc10
 case hc10 => intro _ _; go_simp; try with_reducible rfl
 refine tkH (i := 11) (oi := o139x12) (v := ?vc11) rfl ?hc11 zq ?rc11
 case hc11 => intro _ _; go_simp; try with_reducible rfl
 refine tkH (i := 12) (oi := o139x13) (v := ?vc12) rfl ?hc12 zq ?rc12
 case hc12 => intro _ _; go_simp; try with_reducible rfl
 refine tkH (i := 13) (oi := o139x14) (v := ?vc13) rfl ?hc13 zq ?rc13
 case hc13 =>
  intro wS hSw
  subst hSw
  (try dsimp only at hSw)
  go_simp
  try with_reducible rfl
 refine tkH (i := 14) (oi := o139x15) (v := ?vc14) rfl ?hc14 zq ?rc14
 case hc14 => intro _ _; go_simp; try with_reducible rfl
 refine tkH (i := 15) (oi := o139x16) (v := ?vc15) rfl ?hc15 zq ?rc15
 case hc15 => intro _ _; go_simp; try with_reducible rfl
 refine tkH (i := 16) (oi := o139x17) (v := ?vc16) rfl ?hc16 zq ?rc16
 case hc16 => intro _ _; go_simp; try with_reducible rfl
 refine tkH (i := 17) (oi := o139x18) (v := ?vc17) rfl ?hc17 zq ?rc17
 case hc17 => intro _ _; go_simp; try with_reducible rfl
 refine tkH (i := 18) (oi := o139x19) (v := ?vc18) rfl ?hc18 zq ?rc18
 case hc18 => intro _ _; go_simp; try with_reducible rfl
 refine tkH (i := 19) (oi := o139x20) (v := ?vc19) rfl ?hc19 zq ?rc19
 case hc19 => intro _ _; go_simp; try with_reducible rfl
 refine tkH (i := 20) (oi := o139x21) (v := ?vc20) rfl ?hc20 zq ?rc20
 case hc20 => intro _ _; go_simp; try with_reducible rfl
 refine rdH (i := 21) (oi := o139x22) rfl (fun K hK => ?_)
 go_simp
 go_at_call 131
 refine (uh HL).mono ?_
 rintro e w2 ⟨rfl, rfl⟩
 try go_wp2_with fail
 refine hK.out _ _ rfl (fun zq => ?_)
 clear hK K
 try simp only [Act.put, pz, py, px]
 refine tkH (i := 22) (oi := o139x23) (v := ?vc22) rfl ?hc22 zq ?rc22
 case hc22 => intro _ _; go_simp; try with_reducible rfl
 refine tkH (i := 23) (oi := o139x24) (v := ?vc23) rfl ?hc23 zq ?rc23
 case hc23 => intro _ _; go_simp; try with_reducible rfl
 refine tkH (i := 24) (oi := o139x25) (v := ?vc24) rfl ?hc24 zq ?rc24
 case hc24 => intro _ _; go_simp; try with_reducible rfl
 refine wpAnyH_done (by kernel_rfl) ?_ _
 refine NoPanic.normal ?_
 clear zq
 go_wp2_with fail
 go_ret
 exact ⟨by rw [uh HP]; rfl, uh HB⟩
structure RowIn (cs : Array Value) (w : World) (b o : Nat) : Prop where
 lt : b < w.heap.size
 cells : ∀ (i : Nat) (v : Value), cs[i]? = some v → w.cell? ⟨b, o + i, none⟩ = some v
variable {cs : Array Value} {w w' : World} {b o : Nat}
theorem RowIn.at (h : RowIn cs w b o) (i : Nat) (v : Value) (hi : cs[i]? = some v) : w.cell? ⟨b, o + i, none⟩ = some v := h.cells i v hi
theorem RowIn.keep (h : RowIn cs w b o) (hb : Below w.heap.size w w') : RowIn cs w' b o := ⟨Nat.lt_of_lt_of_le h.lt hb.size, fun i v hi => (hb.cell (p := ⟨b, o + i, none⟩) h.lt).trans (h.cells i v hi)⟩
theorem RowIn.ext {S : Nat → Prop} (h : RowIn cs w b o) (e : Ext S w w') (hs : ¬ S b) : RowIn cs w' b o := ⟨Nat.lt_of_lt_of_le h.lt e.size, fun i v hi => (cell_of_heap (e.block b h.lt hs) _).trans (h.cells i v hi)⟩
theorem RowIn.drew (h : RowIn cs w b o) : RowIn cs w.drew b o := ⟨h.lt, h.cells⟩
theorem RowIn.ofRow {α : Type} {A : Lay α} {off k : Nat} {row : List Value} (hc : ∀ m, m < A.n → w.cell? ⟨b, off + k * A.n + m, none⟩ = row[m]?) (hl : row.length = A.n) (hb : b < w.heap.size) : RowIn row.toArray w b (off + k * A.n) := ⟨hb, fun i v hi => by
 have h1 : row[i]? = some v := by simpa using hi
 have h2 : i < A.n := by
  rw [← hl]
  rcases Nat.lt_or_ge i row.length with q | q
  ·
   exact q
  rw [List.getElem?_eq_none q] at h1; simp at h1
 rw [hc i h2, h1]⟩
end Go.Proofs.YtoanimpijfijgaaGreat
