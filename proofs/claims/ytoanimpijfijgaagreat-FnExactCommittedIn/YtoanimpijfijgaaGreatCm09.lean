/-
  Texts of this proof in one: ImplWF, OwnNode, ImplClone, CloneC, ImplCopied, CopyNs, OwnEntry, AppHit, LayMore, AppHitsL, LayPart, CloneH, CopyHs, ImplCopiedM, ImplWC, ImplDone, ImplStepped, FacePlain, CommPlain, RowIn, SpecWE, SpecWs.
  Their conditions stand in their theorems.
-/
import Derived.Test.YtoanimpijfijgaaGreatCm08
import Derived.Deep.CutRange
import Derived.Test.YtoanimpijfijgaaGreatCm00
import Derived.Test.YtoanimpijfijgaaGreatCm01
import Derived.Test.YtoanimpijfijgaaGreatChecked
import Derived.BigQuiet
import Derived.Deep.QuietTactic
import Derived.WalkSmall
import Derived.Test.YtoanimpijfijgaaGreatCm05
import Derived.WalkKit
import Derived.Test.YtoanimpijfijgaaGreatCm06
import Derived.Maps.AppendAt
import Derived.Defers
import Derived.Recover
import Derived.Laws.Pointers
import Derived.Deep.RegionHeld3
set_option maxRecDepth 100000
set_option maxHeartbeats 4000000
namespace Go.Proofs.YtoanimpijfijgaaGreat
open Go.RowKit
theorem isNobodyC (a3 : Option Addr) (d3 : Nat) (a4 : Option Addr) (d4 : Nat) (a5 : Option Addr) (d5 : Nat) (a6 : Option Addr) (d6 : Nat) (x : DWorld) (id : Int) (g : Nat) (w : World) (h : Lay.tWorld.Reads w [.int .i64 x.now, .int .i64 x.events, .int .i64 x.chain.epoch, .slice a3 x.chain.ids.length d3, .slice a4 x.nodes.length d4, .slice a5 x.msgs.length d5, .slice a6 x.history.length d6] x) (hx : Box 0 #[.int .i64 x.now, .int .i64 x.events, .int .i64 x.chain.epoch, .slice a3 x.chain.ids.length d3, .slice a4 x.nodes.length d4, .slice a5 x.msgs.length d5, .slice a6 x.history.length d6] 36 w g) :
  Calls Tryz.prog 158 #[.int .i64 id, .pointer (some ⟨g, 0, none⟩)] w fun e w' => e = .returned (.bool (!nodeIn x id)) ∧ Below w.heap.size w w' := by
 have HL := yh (hasNodeC _ x id w h)
 have z0 := Box.at hx 0 _ rfl
 have z1 := Box.at hx 1 _ rfl
 have z2 := Box.at hx 2 _ rfl
 have z3 := Box.at hx 3 _ rfl
 have z4 := Box.at hx 4 _ rfl
 have z5 := Box.at hx 5 _ rfl
 have z6 := Box.at hx 6 _ rfl
 simp only [ga, gb, gc] at z0 z1 z2 z3 z4 z5 z6
 clear h
 go_enter Tryz.func158, Tryz.ntmps158
 go_wp2_with fail
 refine (uh HL).mono ?_
 rintro e w1 ⟨rfl, hb⟩
 have HB := yh hb
 clear hb HL z0 z1 z2 z3 z4 z5 z6
 go_wp2_with fail
 go_ret
 exact ⟨rfl, uh HB⟩
theorem indexNobody (a3 : Option Addr) (d3 : Nat) (a4 : Option Addr) (d4 : Nat) (a5 : Option Addr) (d5 : Nat) (a6 : Option Addr) (d6 : Nat) (x : DWorld) (v : Value) (ids : List Int) (g : Nat) (w : World) (h : Lay.tWorld.Reads w [.int .i64 x.now, .int .i64 x.events, .int .i64 x.chain.epoch, .slice a3 x.chain.ids.length d3, .slice a4 x.nodes.length d4, .slice a5 x.msgs.length d5, .slice a6 x.history.length d6] x) (hx : Box 0 #[.int .i64 x.now, .int .i64 x.events, .int .i64 x.chain.epoch, .slice a3 x.chain.ids.length d3, .slice a4 x.nodes.length d4, .slice a5 x.msgs.length d5, .slice a6 x.history.length d6] 36 w g) (R : (Lay.sl Lay.int).Reads w [v] ids) :
  Calls Tryz.prog 230 #[v, .func (.func 158) #[] #[.pointer (some ⟨g, 0, none⟩)]] w fun e w' => ∃ i : Int, e = .returned (.int .i64 i) ∧ decide (0 ≤ i) = !(ids.all (nodeIn x)) ∧ Below w.heap.size w w' := by
 have hbig := R.big
 obtain ⟨ao, cap, rfl⟩ := open_sl R
 have H := yh R
 have HX := yh h
 have HBX := yh hx
 clear h hx R
 go_enter Tryz.func230, Tryz.ntmps230
 go_wp2_with fail
 go_loopw [8] (fun i wr => ∃ k : Nat, k ≤ ids.length ∧ i = .int .i64 k ∧ (∀ j (hj : j < ids.length), j < k → nodeIn x ids[j] = true) ∧ Below w.heap.size w wr) (fun i _ => ids.length - (intOf i).toNat)
 case atStart => exact ⟨0, Nat.zero_le _, rfl, fun j _ hj => by omega, Below.refl _ _⟩
 case round =>
  obtain ⟨k, hk, rfl, hz, hB⟩ := hrel
  by_cases hlt : k < ids.length
  ·
   obtain ⟨b, off, rfl, hbl⟩ := Lay.sl_addr (uh H) (by omega)
   have c1 := (hB.cell (p := ⟨b, off + k, none⟩) hbl).trans (int_cell (uh H) hlt)
   have hdl : decide ((k : Int) < (ids.length : Int)) = true := by simp; omega
   have HL := yh (isNobodyC a3 d3 a4 d4 a5 d5 a6 d6 x ids[k] g wr ((uh HX).later hB) ((uh HBX).keep hB))
   have HA : Hid (nodeIn x ids[k] = false → (!(ids.all (nodeIn x))) = true) := fun q => by
    have : ids.all (nodeIn x) = false := by rw [List.all_eq_false]; exact ⟨ids[k], List.getElem_mem _, by rw [q]; simp⟩
    rw [this]; rfl
   have HN : Hid (nodeIn x ids[k] = true → ∀ j (hj : j < ids.length), j < k + 1 → nodeIn x ids[j] = true) := fun q j hj hjk => by
    by_cases h2 : j < k
    ·
     exact hz j hj h2
    obtain rfl : j = k := by omega
    exact q
   have HB := yh hB
   clear hz hB
   generalize hy : ids[k] = y at *
   clear hy
   go_wp2_with fail
   refine (uh HL).mono ?_
   rintro e w2 ⟨rfl, hb⟩
   replace HB := yh ((uh HB).trans (hb.mono (uh HB).size))
   clear hb HL c1
   cases hq : nodeIn x y
   ·
    have HAA := yh (uh HA hq)
    clear HN HA hq
    go_wp2_with fail
    go_ret
    exact ⟨(k : Int), rfl, by rw [uh HAA]; simp, uh HB⟩
   have HNN := yh (uh HN hq)
   clear HN HA hq
   go_wp2_with fail
   go_roundw
   case rel => exact ⟨k + 1, by omega, by go_num, uh HNN, uh HB⟩
   case measure => simp [intOf]; omega
  obtain rfl : k = ids.length := by omega
  have hdl : decide ((ids.length : Int) < (ids.length : Int)) = false := by simp
  have HB := yh hB
  have HZ : Hid (ids.all (nodeIn x) = true) := List.all_eq_true.2 fun y hy => by
   obtain ⟨j, hj, rfl⟩ := List.getElem_of_mem hy
   exact hz j hj hj
  clear hz hB
  go_wp2_with fail
  go_ret
  exact ⟨-1, rfl, by rw [uh HZ]; simp, uh HB⟩
theorem containsNobody (a3 : Option Addr) (d3 : Nat) (a4 : Option Addr) (d4 : Nat) (a5 : Option Addr) (d5 : Nat) (a6 : Option Addr) (d6 : Nat) (x : DWorld) (v : Value) (ids : List Int) (g : Nat) (w : World) (h : Lay.tWorld.Reads w [.int .i64 x.now, .int .i64 x.events, .int .i64 x.chain.epoch, .slice a3 x.chain.ids.length d3, .slice a4 x.nodes.length d4, .slice a5 x.msgs.length d5, .slice a6 x.history.length d6] x) (hx : Box 0 #[.int .i64 x.now, .int .i64 x.events, .int .i64 x.chain.epoch, .slice a3 x.chain.ids.length d3, .slice a4 x.nodes.length d4, .slice a5 x.msgs.length d5, .slice a6 x.history.length d6] 36 w g) (R : (Lay.sl Lay.int).Reads w [v] ids) :
  Calls Tryz.prog 159 #[v, .func (.func 158) #[] #[.pointer (some ⟨g, 0, none⟩)]] w fun e w' => e = .returned (.bool (!(ids.all (nodeIn x)))) ∧ Below w.heap.size w w' := by
 have HL := yh (indexNobody a3 d3 a4 d4 a5 d5 a6 d6 x v ids g w h hx R)
 obtain ⟨ao, cap, rfl⟩ := open_sl R
 clear h hx R
 go_enter Tryz.func159, Tryz.ntmps159
 go_wp2_with fail
 refine (uh HL).mono ?_
 rintro e w1 ⟨i, rfl, hi, hb⟩
 have HI := yh hi
 have HB := yh hb
 clear hb HL hi
 go_wp2_with fail
 go_ret
 exact ⟨by rw [← uh HI]; rfl, uh HB⟩
theorem wf_eq (x : DWorld) : worldFault x = if (decide (0 ≤ x.now) && decide (x.now ≤ 9000)) = false ∨ (decide (0 ≤ x.events) && decide (x.events ≤ 9999)) = false then 3
  else if chainFault x.chain ≠ 0 then chainFault x.chain else if nodesP x.chain x.nodes ≠ 0 then nodesP x.chain x.nodes else if (!(x.chain.ids.all (nodeIn x))) = true then 4
  else if netFault x.msgs ≠ 0 then netFault x.msgs else histP x.events x.history := by
 have e1 : (¬ (0 ≤ x.now ∧ x.now ≤ 9000) ∨ ¬ (0 ≤ x.events ∧ x.events ≤ 9999)) ↔ ((decide (0 ≤ x.now) && decide (x.now ≤ 9000)) = false ∨ (decide (0 ≤ x.events) && decide (x.events ≤ 9999)) = false) := by
  simp only [Bool.and_eq_false_iff, decide_eq_false_iff_not]
  omega
 unfold worldFault
 by_cases h1 : (decide (0 ≤ x.now) && decide (x.now ≤ 9000)) = false ∨ (decide (0 ≤ x.events) && decide (x.events ≤ 9999)) = false
 ·
  rw [if_pos (e1.2 h1), if_pos h1]
 rw [if_neg (fun q => h1 (e1.1 q)), if_neg h1]
 by_cases h2 : chainFault x.chain ≠ 0
 ·
  rw [if_pos h2, if_pos h2]
 rw [if_neg h2, if_neg h2]
 by_cases h3 : x.nodes.length < 1 ∨ 5 < x.nodes.length
 ·
  have hP : nodesP x.chain x.nodes = 2 := if_neg (by omega)
  rw [if_pos h3, hP, if_pos (show ((2 : Int) ≠ 0) by omega)]
 have hP : nodesP x.chain x.nodes = nodesF x.chain 0 x.nodes := if_pos (by omega)
 rw [if_neg h3, hP]
 unfold nodesFault
 by_cases h4 : nodesF x.chain 0 x.nodes ≠ 0
 ·
  rw [if_pos h4, if_pos h4, if_pos h4]
 rw [if_neg h4, if_neg h4]
 cases h5 : x.chain.ids.all (nodeIn x)
 ·
  simp
 simp only [if_true, Bool.not_true, ne_eq, not_true_eq_false, if_false]
 by_cases h6 : netFault x.msgs ≠ 0
 ·
  rw [if_pos h6, if_pos h6]; simp
 rw [if_neg h6, if_neg h6]
 rfl
theorem wf_vals (x : DWorld) : 0 ≤ worldFault x ∧ worldFault x ≤ 10 := worldFault_vals x (chainFault_vals _)
theorem implWorldFault (cs : List Value) (x : DWorld) (w : World) (h : Lay.tWorld.Reads w cs x) :
  Calls Tryz.prog 85 #[.agg cs.toArray] w fun e w' => e = .returned (.int .i64 (worldFault x)) ∧ Below w.heap.size w w' := by
 obtain ⟨a3, d3, a4, d4, a5, d5, a6, d6, rfl, RC, RN, RM, RE⟩ := open_World h
 have nb : Below w.heap.size w (w.alloc (.cells #[.int .i64 x.now, .int .i64 x.events, .int .i64 x.chain.epoch, .slice a3 x.chain.ids.length d3, .slice a4 x.nodes.length d4, .slice a5 x.msgs.length d5, .slice a6 x.history.length d6] 36)) := (Below.refl _ _).alloc (Nat.le_refl _) _
 have HX : Hid (Box 0 #[.int .i64 x.now, .int .i64 x.events, .int .i64 x.chain.epoch, .slice a3 x.chain.ids.length d3, .slice a4 x.nodes.length d4, .slice a5 x.msgs.length d5, .slice a6 x.history.length d6] 36 (w.alloc (.cells #[.int .i64 x.now, .int .i64 x.events, .int .i64 x.chain.epoch, .slice a3 x.chain.ids.length d3, .slice a4 x.nodes.length d4, .slice a5 x.msgs.length d5, .slice a6 x.history.length d6] 36)) w.heap.size) := newBox (Nat.zero_le _)
 have HR := yh (h.later nb)
 have HP := yh (wf_eq x)
 have HB := yh nb
 have hmf : ∀ (fn : Fn) (first cap : Array Value) (w : World), (Instr.makeFunc fn first cap).run Tryz.prog w = .ok (.func fn first cap) w := fun _ _ _ _ => rfl
 clear nb h RC RN RM RE
 generalize worldFault x = r at *
 go_enter Tryz.func85, Tryz.ntmps85
 go_upto_region 1 with fail
 generalize w.alloc (.cells #[.int .i64 x.now, .int .i64 x.events, .int .i64 x.chain.epoch, .slice a3 x.chain.ids.length d3, .slice a4 x.nodes.length d4, .slice a5 x.msgs.length d5, .slice a6 x.history.length d6] 36) = w1 at *
 have z0 := Box.at (uh HX) 0 _ rfl
 have z1 := Box.at (uh HX) 1 _ rfl
 have z2 := Box.at (uh HX) 2 _ rfl
 have z3 := Box.at (uh HX) 3 _ rfl
 have z4 := Box.at (uh HX) 4 _ rfl
 have z5 := Box.at (uh HX) 5 _ rfl
 have z6 := Box.at (uh HX) 6 _ rfl
 simp only [ga, gb, gc] at z0 z1 z2 z3 z4 z5 z6
 go_wp2_with fail
 refine (isUpToC x.now 9000 w1).mono ?_
 rintro e w2 ⟨rfl, h2⟩
 subst w2
 cases d1 : (decide (0 ≤ x.now) && decide (x.now ≤ 9000))
 ·
  replace HP := yh ((uh HP).trans (if_pos (Or.inl d1)))
  clear d1
  go_wp2_with fail
  go_ret
  exact ⟨by rw [uh HP]; rfl, uh HB⟩
 go_wp2_with fail
 refine (isUpToC x.events 9999 w1).mono ?_
 rintro e w2 ⟨rfl, h2⟩
 subst w2
 cases d2 : (decide (0 ≤ x.events) && decide (x.events ≤ 9999))
 ·
  replace HP := yh ((uh HP).trans (if_pos (Or.inr d2)))
  clear d1 d2
  go_wp2_with fail
  go_ret
  exact ⟨by rw [uh HP]; rfl, uh HB⟩
 replace HP := yh ((uh HP).trans (if_neg (by rw [d1, d2]; simp)))
 clear d1 d2
 go_wp2_with fail
 obtain ⟨_, _, _, _, _, _, _, _, hq, RC, -, -, -⟩ := open_World (uh HR)
 simp only [List.cons.injEq, Value.slice.injEq, and_true, true_and] at hq
 obtain ⟨⟨rfl, rfl⟩, ⟨rfl, rfl⟩, ⟨rfl, rfl⟩, rfl, rfl⟩ := hq
 refine (implChainFault _ x.chain w1 RC).mono ?_
 rintro e w2 ⟨rfl, hb⟩
 clear RC z0 z1 z2 z3 z4 z5 z6
 replace HX := yh ((uh HX).keep hb)
 replace HR := yh ((uh HR).later hb)
 replace HB := yh ((uh HB).trans (hb.mono (uh HB).size))
 clear hb
 have z0 := Box.at (uh HX) 0 _ rfl
 have z1 := Box.at (uh HX) 1 _ rfl
 have z2 := Box.at (uh HX) 2 _ rfl
 have z3 := Box.at (uh HX) 3 _ rfl
 have z4 := Box.at (uh HX) 4 _ rfl
 have z5 := Box.at (uh HX) 5 _ rfl
 have z6 := Box.at (uh HX) 6 _ rfl
 simp only [ga, gb, gc] at z0 z1 z2 z3 z4 z5 z6
 by_cases d3 : chainFault x.chain ≠ 0
 ·
  have hd : (chainFault x.chain != 0) = true := by simpa using d3
  replace HP := yh ((uh HP).trans (if_pos d3))
  clear d3
  generalize chainFault x.chain = c at *
  go_wp2_with fail
  go_ret
  exact ⟨by rw [uh HP]; rfl, uh HB⟩
 replace HP := yh ((uh HP).trans (if_neg d3))
 have hd : chainFault x.chain = 0 := by simpa using d3
 clear d3
 rw [hd]
 clear hd
 go_wp2_with fail
 obtain ⟨_, _, _, _, _, _, _, _, hq, RC, RN, -, -⟩ := open_World (uh HR)
 simp only [List.cons.injEq, Value.slice.injEq, and_true, true_and] at hq
 obtain ⟨⟨rfl, rfl⟩, ⟨rfl, rfl⟩, ⟨rfl, rfl⟩, rfl, rfl⟩ := hq
 refine (nodesFaultC _ x.chain _ x.nodes w2 RC RN).mono ?_
 rintro e w3 ⟨rfl, hb⟩
 clear RC RN z0 z1 z2 z3 z4 z5 z6
 replace HX := yh ((uh HX).keep hb)
 replace HR := yh ((uh HR).later hb)
 replace HB := yh ((uh HB).trans (hb.mono (uh HB).size))
 clear hb
 have z0 := Box.at (uh HX) 0 _ rfl
 have z1 := Box.at (uh HX) 1 _ rfl
 have z2 := Box.at (uh HX) 2 _ rfl
 have z3 := Box.at (uh HX) 3 _ rfl
 have z4 := Box.at (uh HX) 4 _ rfl
 have z5 := Box.at (uh HX) 5 _ rfl
 have z6 := Box.at (uh HX) 6 _ rfl
 simp only [ga, gb, gc] at z0 z1 z2 z3 z4 z5 z6
 by_cases d3 : nodesP x.chain x.nodes ≠ 0
 ·
  have hd : (nodesP x.chain x.nodes != 0) = true := by simpa using d3
  replace HP := yh ((uh HP).trans (if_pos d3))
  clear d3
  generalize nodesP x.chain x.nodes = c at *
  go_wp2_with fail
  go_ret
  exact ⟨by rw [uh HP]; rfl, uh HB⟩
 replace HP := yh ((uh HP).trans (if_neg d3))
 have hd : nodesP x.chain x.nodes = 0 := by simpa using d3
 clear d3
 rw [hd]
 clear hd
 go_wp2_with fail
 obtain ⟨_, _, _, _, _, _, _, _, hq, RC, -, -, -⟩ := open_World (uh HR)
 simp only [List.cons.injEq, Value.slice.injEq, and_true, true_and] at hq
 obtain ⟨⟨rfl, rfl⟩, ⟨rfl, rfl⟩, ⟨rfl, rfl⟩, rfl, rfl⟩ := hq
 obtain ⟨_, _, hq, RI⟩ := open_Chain RC
 simp only [List.cons.injEq, Value.slice.injEq, and_true, true_and] at hq
 obtain ⟨rfl, rfl⟩ := hq
 refine (containsNobody a3 d3 a4 d4 a5 d5 a6 d6 x _ x.chain.ids w.heap.size w3 (uh HR) (uh HX) RI).mono ?_
 rintro e w4 ⟨rfl, hb⟩
 clear RC RI z0 z1 z2 z3 z4 z5 z6
 replace HX := yh ((uh HX).keep hb)
 replace HR := yh ((uh HR).later hb)
 replace HB := yh ((uh HB).trans (hb.mono (uh HB).size))
 clear hb
 have z0 := Box.at (uh HX) 0 _ rfl
 have z1 := Box.at (uh HX) 1 _ rfl
 have z2 := Box.at (uh HX) 2 _ rfl
 have z3 := Box.at (uh HX) 3 _ rfl
 have z4 := Box.at (uh HX) 4 _ rfl
 have z5 := Box.at (uh HX) 5 _ rfl
 have z6 := Box.at (uh HX) 6 _ rfl
 simp only [ga, gb, gc] at z0 z1 z2 z3 z4 z5 z6
 cases d3 : x.chain.ids.all (nodeIn x)
 ·
  replace HP := yh ((uh HP).trans (if_pos (by rw [d3]; rfl)))
  clear d3
  go_wp2_with fail
  go_ret
  exact ⟨by rw [uh HP]; rfl, uh HB⟩
 replace HP := yh ((uh HP).trans (if_neg (by rw [d3]; simp)))
 clear d3
 go_wp2_with fail
 obtain ⟨_, _, _, _, _, _, _, _, hq, -, -, RM, -⟩ := open_World (uh HR)
 simp only [List.cons.injEq, Value.slice.injEq, and_true, true_and] at hq
 obtain ⟨⟨rfl, rfl⟩, ⟨rfl, rfl⟩, ⟨rfl, rfl⟩, rfl, rfl⟩ := hq
 refine (implNetFault _ x.msgs w4 RM).mono ?_
 rintro e w5 ⟨rfl, hb⟩
 clear RM z0 z1 z2 z3 z4 z5 z6
 replace HX := yh ((uh HX).keep hb)
 replace HR := yh ((uh HR).later hb)
 replace HB := yh ((uh HB).trans (hb.mono (uh HB).size))
 clear hb
 have z0 := Box.at (uh HX) 0 _ rfl
 have z1 := Box.at (uh HX) 1 _ rfl
 have z2 := Box.at (uh HX) 2 _ rfl
 have z3 := Box.at (uh HX) 3 _ rfl
 have z4 := Box.at (uh HX) 4 _ rfl
 have z5 := Box.at (uh HX) 5 _ rfl
 have z6 := Box.at (uh HX) 6 _ rfl
 simp only [ga, gb, gc] at z0 z1 z2 z3 z4 z5 z6
 by_cases d3 : netFault x.msgs ≠ 0
 ·
  have hd : (netFault x.msgs != 0) = true := by simpa using d3
  replace HP := yh ((uh HP).trans (if_pos d3))
  clear d3
  generalize netFault x.msgs = c at *
  go_wp2_with fail
  go_ret
  exact ⟨by rw [uh HP]; rfl, uh HB⟩
 replace HP := yh ((uh HP).trans (if_neg d3))
 have hd : netFault x.msgs = 0 := by simpa using d3
 clear d3
 rw [hd]
 clear hd
 go_wp2_with fail
 obtain ⟨_, _, _, _, _, _, _, _, hq, -, -, -, RE⟩ := open_World (uh HR)
 simp only [List.cons.injEq, Value.slice.injEq, and_true, true_and] at hq
 obtain ⟨⟨rfl, rfl⟩, ⟨rfl, rfl⟩, ⟨rfl, rfl⟩, rfl, rfl⟩ := hq
 refine (historyFaultC _ x.history x.events w5 RE).mono ?_
 rintro e w6 ⟨rfl, hb⟩
 replace HB := yh ((uh HB).trans (hb.mono (uh HB).size))
 clear RE hb z0 z1 z2 z3 z4 z5 z6
 go_wp2_with fail
 go_ret
 exact ⟨by rw [uh HP]; rfl, uh HB⟩
theorem nodeIn_at {x : DWorld} {id : Int} (h : nodeIn x id = true) : ∃ k, ∃ _ : k < x.nodes.length, id = (k : Int) + 1 := by
 simp only [nodeIn, Bool.and_eq_true, decide_eq_true_eq] at h
 exact ⟨(id - 1).toNat, by omega, by omega⟩
theorem nodeOf_at {x : DWorld} {k : Nat} (hk : k < x.nodes.length) : nodeOf x ((k : Int) + 1) = x.nodes[k] := by
 have : ((k : Int) + 1 - 1).toNat = k := by omega
 rw [nodeOf, this]
 simp [List.getD, hk]
def tailId (x : DWorld) : Int := x.chain.ids.getD (x.chain.ids.length - 1) 0
def committedR (x : DWorld) : DIntResult := if worldFault x ≠ 0 then ⟨worldFault x, 0⟩ else ⟨0, (nodeOf x (tailId x)).sure⟩
theorem tail_at {x : DWorld} (h : WorldOK x) : ∃ (k : Nat) (_ : k < x.nodes.length), tailId x = (k : Int) + 1 := by
 have h1 := (chainFault_zero h.chain).len
 have hlt : x.chain.ids.length - 1 < x.chain.ids.length := by omega
 have e : tailId x = x.chain.ids[x.chain.ids.length - 1] := by
  unfold tailId
  generalize x.chain.ids.length - 1 = j at *
  simp [List.getD, hlt]
 have h2 := h.ids _ (List.getElem_mem hlt)
 rw [← e] at h2
 exact nodeIn_at h2
theorem wf_sure {w : World} {b off cap k : Nat} {xs : List DNode} (h : (Lay.sl Lay.tNode).Reads w [.slice (some ⟨b, off, none⟩) xs.length cap] xs) (hk : k < xs.length) : w.cell? ⟨b, off + k * 7 + 5, none⟩ = some (.int .i64 xs[k].sure) ∧ (Lit.int .i64 xs[k].sure).wf = true := by
 obtain ⟨row, hcl, hr⟩ := Lay.row_at h hk
 obtain ⟨_, hq⟩ := hr
 obtain ⟨_, _, _, rfl, -, -, -, -, -, q, -⟩ := lies_Node.1 hq
 exact ⟨hcl 5 (by decide), q⟩
structure RowIn (cs : Array Value) (w : World) (b o : Nat) : Prop where
 lt : b < w.heap.size
 cells : ∀ (i : Nat) (v : Value), cs[i]? = some v → w.cell? ⟨b, o + i, none⟩ = some v
variable {cs : Array Value} {w w' : World} {b o : Nat}
theorem RowIn.at (h : RowIn cs w b o) (i : Nat) (v : Value) (hi : cs[i]? = some v) : w.cell? ⟨b, o + i, none⟩ = some v := h.cells i v hi
theorem RowIn.keep (h : RowIn cs w b o) (hb : Below w.heap.size w w') : RowIn cs w' b o := ⟨Nat.lt_of_lt_of_le h.lt hb.size, fun i v hi => (hb.cell (p := ⟨b, o + i, none⟩) h.lt).trans (h.cells i v hi)⟩
theorem RowIn.ext {S : Nat → Prop} (h : RowIn cs w b o) (e : Ext S w w') (hs : ¬ S b) : RowIn cs w' b o := ⟨Nat.lt_of_lt_of_le h.lt e.size, fun i v hi => (cell_of_heap (e.block b h.lt hs) _).trans (h.cells i v hi)⟩
theorem RowIn.drew (h : RowIn cs w b o) : RowIn cs w.drew b o := ⟨h.lt, h.cells⟩
theorem RowIn.ofRow {α : Type} {A : Lay α} {off k : Nat} {row : List Value} (hc : ∀ m, m < A.n → w.cell? ⟨b, off + k * A.n + m, none⟩ = row[m]?) (hl : row.length = A.n) (hb : b < w.heap.size) : RowIn row.toArray w b (off + k * A.n) := ⟨hb, fun i v hi => by
 have h1 : row[i]? = some v := by simpa using hi
 have h2 : i < A.n := by
  rw [← hl]
  rcases Nat.lt_or_ge i row.length with q | q
  ·
   exact q
  rw [List.getElem?_eq_none q] at h1; simp at h1
 rw [hc i h2, h1]⟩
abbrev o138x1 : Oper := ⟨some 5, .move (.tmp 1), 193, "l12_world.go:31", #[], none⟩
abbrev o138x2 : Oper := ⟨some 6, .nilCheck (.tmp 5), 0, "l12_world.go:31", #[⟨0, .data⟩], none⟩
abbrev o138x3 : Oper := ⟨some 7, .fieldAddr 127 (.tmp 6) 0, 0, "l12_world.go:31", #[⟨1, .data⟩], none⟩
abbrev o138x4 : Oper := ⟨some 8, .load 2 (.tmp 7), 2, "l12_world.go:31", #[⟨2, .data⟩], none⟩
abbrev o138x5 : Oper := ⟨some 9, .call { callee := .value (.func 64), args := #[.tmp 8, .const (.int .i64 1), .const (.int .i64 3)], argTypes := #[2, 2, 2] }, 4, "l12_world.go:31", #[⟨3, .data⟩], none⟩
abbrev o138x6 : Oper := ⟨some 10, .move (.tmp 9), 4, "l12_world.go:31", #[⟨4, .data⟩, ⟨4, .chain⟩], none⟩
abbrev o138x7 : Oper := ⟨some 11, .move (.tmp 1), 193, "l12_world.go:31", #[⟨5, .guard⟩], some (5, true)⟩
abbrev o138x8 : Oper := ⟨some 12, .nilCheck (.tmp 11), 0, "l12_world.go:31", #[⟨6, .data⟩, ⟨5, .guard⟩], some (5, true)⟩
abbrev o138x9 : Oper := ⟨some 13, .fieldAddr 127 (.tmp 12) 6, 0, "l12_world.go:31", #[⟨7, .data⟩, ⟨5, .guard⟩], some (5, true)⟩
abbrev o138x10 : Oper := ⟨some 14, .load 2 (.tmp 13), 2, "l12_world.go:31", #[⟨8, .data⟩, ⟨5, .guard⟩], some (5, true)⟩
abbrev o138x11 : Oper := ⟨some 15, .move (.tmp 0), 76, "l12_world.go:31", #[⟨5, .guard⟩], some (5, true)⟩
abbrev o138x12 : Oper := ⟨some 16, .nilCheck (.tmp 15), 0, "l12_world.go:31", #[⟨10, .data⟩, ⟨5, .guard⟩], some (5, true)⟩
abbrev o138x13 : Oper := ⟨some 17, .fieldAddr 36 (.tmp 16) 1, 0, "l12_world.go:31", #[⟨11, .data⟩, ⟨5, .guard⟩], some (5, true)⟩
abbrev o138x14 : Oper := ⟨some 18, .load 2 (.tmp 17), 2, "l12_world.go:31", #[⟨12, .data⟩, ⟨5, .guard⟩], some (5, true)⟩
abbrev o138x15 : Oper := ⟨some 19, .call { callee := .value (.func 64), args := #[.tmp 14, .const (.int .i64 1), .tmp 18], argTypes := #[2, 2, 2] }, 4, "l12_world.go:31", #[⟨9, .data⟩, ⟨13, .data⟩, ⟨5, .chain⟩, ⟨5, .guard⟩], some (5, true)⟩
abbrev o138x16 : Oper := ⟨some 20, .pick (.tmp 10) (.tmp 19) (.const (.bool false)), 4, "l12_world.go:31", #[⟨5, .data⟩, ⟨14, .data⟩], none⟩
abbrev o138x17 : Oper := ⟨some 21, .move (.tmp 20), 4, "l12_world.go:31", #[⟨15, .data⟩, ⟨14, .chain⟩], none⟩
abbrev o138x18 : Oper := ⟨some 22, .move (.tmp 1), 193, "l12_world.go:31", #[⟨16, .guard⟩], some (16, true)⟩
abbrev o138x19 : Oper := ⟨some 23, .nilCheck (.tmp 22), 0, "l12_world.go:31", #[⟨17, .data⟩, ⟨16, .guard⟩], some (16, true)⟩
abbrev o138x20 : Oper := ⟨some 24, .fieldAddr 127 (.tmp 23) 7, 0, "l12_world.go:31", #[⟨18, .data⟩, ⟨16, .guard⟩], some (16, true)⟩
abbrev o138x21 : Oper := ⟨some 25, .load 2 (.tmp 24), 2, "l12_world.go:31", #[⟨19, .data⟩, ⟨16, .guard⟩], some (16, true)⟩
abbrev o138x22 : Oper := ⟨some 26, .binOp .eql 2 (.tmp 25) (.const (.int .i64 0)) 2, 4, "l12_world.go:31", #[⟨20, .data⟩, ⟨16, .guard⟩], some (16, true)⟩
abbrev o138x23 : Oper := ⟨some 27, .move (.tmp 26), 4, "l12_world.go:31", #[⟨21, .data⟩, ⟨16, .chain⟩, ⟨16, .guard⟩], some (16, true)⟩
abbrev o138x24 : Oper := ⟨some 28, .move (.tmp 1), 193, "l12_world.go:31", #[⟨22, .guard⟩], some (22, false)⟩
abbrev o138x25 : Oper := ⟨some 29, .nilCheck (.tmp 28), 0, "l12_world.go:31", #[⟨23, .data⟩, ⟨22, .guard⟩], some (22, false)⟩
abbrev o138x26 : Oper := ⟨some 30, .fieldAddr 127 (.tmp 29) 7, 0, "l12_world.go:31", #[⟨24, .data⟩, ⟨22, .guard⟩], some (22, false)⟩
abbrev o138x27 : Oper := ⟨some 31, .load 2 (.tmp 30), 2, "l12_world.go:31", #[⟨25, .data⟩, ⟨22, .guard⟩], some (22, false)⟩
abbrev o138x28 : Oper := ⟨some 32, .move (.tmp 1), 193, "l12_world.go:31", #[⟨22, .guard⟩], some (22, false)⟩
abbrev o138x29 : Oper := ⟨some 33, .nilCheck (.tmp 32), 0, "l12_world.go:31", #[⟨27, .data⟩, ⟨22, .guard⟩], some (22, false)⟩
abbrev o138x30 : Oper := ⟨some 34, .fieldAddr 127 (.tmp 33) 6, 0, "l12_world.go:31", #[⟨28, .data⟩, ⟨22, .guard⟩], some (22, false)⟩
abbrev o138x31 : Oper := ⟨some 35, .load 2 (.tmp 34), 2, "l12_world.go:31", #[⟨29, .data⟩, ⟨22, .guard⟩], some (22, false)⟩
abbrev o138x32 : Oper := ⟨some 36, .move (.tmp 0), 76, "l12_world.go:31", #[⟨22, .guard⟩], some (22, false)⟩
abbrev o138x33 : Oper := ⟨some 37, .nilCheck (.tmp 36), 0, "l12_world.go:31", #[⟨31, .data⟩, ⟨22, .guard⟩], some (22, false)⟩
abbrev o138x34 : Oper := ⟨some 38, .fieldAddr 36 (.tmp 37) 1, 0, "l12_world.go:31", #[⟨32, .data⟩, ⟨22, .guard⟩], some (22, false)⟩
abbrev o138x35 : Oper := ⟨some 39, .load 2 (.tmp 38), 2, "l12_world.go:31", #[⟨33, .data⟩, ⟨22, .guard⟩], some (22, false)⟩
abbrev o138x36 : Oper := ⟨some 40, .call { callee := .value (.func 64), args := #[.tmp 31, .tmp 35, .tmp 39], argTypes := #[2, 2, 2] }, 4, "l12_world.go:31", #[⟨26, .data⟩, ⟨30, .data⟩, ⟨34, .data⟩, ⟨22, .chain⟩, ⟨22, .guard⟩], some (22, false)⟩
abbrev o138x37 : Oper := ⟨some 41, .pick (.tmp 27) (.const (.bool true)) (.tmp 40), 4, "l12_world.go:31", #[⟨22, .data⟩, ⟨35, .data⟩, ⟨16, .guard⟩], some (16, true)⟩
abbrev o138x38 : Oper := ⟨some 42, .pick (.tmp 21) (.tmp 41) (.const (.bool false)), 4, "l12_world.go:31", #[⟨16, .data⟩, ⟨36, .data⟩], none⟩
abbrev o138x39 : Oper := ⟨some 43, .move (.tmp 42), 4, "l12_world.go:31", #[⟨37, .data⟩, ⟨35, .chain⟩], none⟩
abbrev o138x40 : Oper := ⟨some 44, .move (.tmp 1), 193, "l12_world.go:31", #[⟨38, .guard⟩], some (38, true)⟩
abbrev o138x41 : Oper := ⟨some 45, .nilCheck (.tmp 44), 0, "l12_world.go:31", #[⟨39, .data⟩, ⟨38, .guard⟩], some (38, true)⟩
abbrev o138x42 : Oper := ⟨some 46, .fieldAddr 127 (.tmp 45) 8, 0, "l12_world.go:31", #[⟨40, .data⟩, ⟨38, .guard⟩], some (38, true)⟩
abbrev o138x43 : Oper := ⟨some 47, .load 2 (.tmp 46), 2, "l12_world.go:31", #[⟨41, .data⟩, ⟨38, .guard⟩], some (38, true)⟩
abbrev o138x44 : Oper := ⟨some 48, .call { callee := .value (.func 64), args := #[.tmp 47, .const (.int .i64 0), .const (.int .i64 40)], argTypes := #[2, 2, 2] }, 4, "l12_world.go:31", #[⟨42, .data⟩, ⟨38, .chain⟩, ⟨38, .guard⟩], some (38, true)⟩
abbrev o138x45 : Oper := ⟨some 49, .pick (.tmp 43) (.tmp 48) (.const (.bool false)), 4, "l12_world.go:31", #[⟨38, .data⟩, ⟨43, .data⟩], none⟩
abbrev o138x46 : Oper := ⟨some 4, .assign (.tmp 49), 4, "l12_world.go:31", #[⟨44, .data⟩, ⟨43, .chain⟩, ⟨0, .phase⟩, ⟨1, .phase⟩, ⟨2, .phase⟩, ⟨3, .phase⟩, ⟨4, .phase⟩, ⟨5, .phase⟩, ⟨6, .phase⟩, ⟨7, .phase⟩, ⟨8, .phase⟩, ⟨9, .phase⟩, ⟨10, .phase⟩, ⟨11, .phase⟩, ⟨12, .phase⟩, ⟨13, .phase⟩, ⟨14, .phase⟩, ⟨15, .phase⟩, ⟨16, .phase⟩, ⟨17, .phase⟩, ⟨18, .phase⟩, ⟨19, .phase⟩, ⟨20, .phase⟩, ⟨21, .phase⟩, ⟨22, .phase⟩, ⟨23, .phase⟩, ⟨24, .phase⟩, ⟨25, .phase⟩, ⟨26, .phase⟩, ⟨27, .phase⟩, ⟨28, .phase⟩, ⟨29, .phase⟩, ⟨30, .phase⟩, ⟨31, .phase⟩, ⟨32, .phase⟩, ⟨33, .phase⟩, ⟨34, .phase⟩, ⟨35, .phase⟩, ⟨36, .phase⟩, ⟨37, .phase⟩, ⟨38, .phase⟩, ⟨39, .phase⟩, ⟨40, .phase⟩, ⟨41, .phase⟩, ⟨42, .phase⟩, ⟨43, .phase⟩, ⟨44, .phase⟩], none⟩
theorem l12NodeC (a3 : Option Addr) (d3 : Nat) (a4 : Option Addr) (d4 : Nat) (a5 : Option Addr) (d5 : Nat) (a6 : Option Addr) (d6 : Nat) (x : DWorld) (id : Int) (xb : Nat) (w : World) (hX : Box 0 #[.int .i64 x.now, .int .i64 x.events, .int .i64 x.chain.epoch, .slice a3 x.chain.ids.length d3, .slice a4 x.nodes.length d4, .slice a5 x.msgs.length d5, .slice a6 x.history.length d6] 36 w xb) :
  Calls Tryz.prog 130 #[.pointer (some ⟨xb, 0, none⟩), .int .i64 id] w fun e w' => e = .returned (.bool (nodeIn x id)) ∧ w' = w := by
 have HL := yh (inC id 1 (x.nodes.length : Int) w)
 have z3 := Box.at hX 4 _ rfl
 simp only [ga, gb, gc] at z3
 have xl := hX.lt
 clear hX
 go_enter Tryz.func130, Tryz.ntmps130
 go_wp2_with fail
 refine (uh HL).mono ?_
 rintro e w1 ⟨rfl, h1⟩
 subst w1
 clear HL
 go_wp2_with fail
 go_ret
 exact ⟨rfl, rfl⟩
theorem l12EntryC (a3 : Option Addr) (d3 : Nat) (a4 : Option Addr) (d4 : Nat) (a5 : Option Addr) (d5 : Nat) (a6 : Option Addr) (d6 : Nat) (aq : Option Addr) (dq : Nat) (av : Option Addr) (dv : Nat) (ah : Option Addr) (dh : Nat) (x : DWorld) (e : DEntry) (xb b o : Nat) (w : World) (hX : Box 0 #[.int .i64 x.now, .int .i64 x.events, .int .i64 x.chain.epoch, .slice a3 x.chain.ids.length d3, .slice a4 x.nodes.length d4, .slice a5 x.msgs.length d5, .slice a6 x.history.length d6] 36 w xb) (hE : RowIn #[.int .i64 e.kind, .int .i64 e.session, .int .i64 e.seq, .int .i64 e.id, .slice aq e.query.length dq, .int .i64 e.k, .int .i64 e.start, .int .i64 e.fin, .int .i64 e.place, .slice av e.vec.length dv, .slice ah e.hits.length dh] w b o) :
  Calls Tryz.prog 181 #[.pointer (some ⟨xb, 0, none⟩), .pointer (some ⟨b, o, none⟩)] w fun r w' => r = .returned (.bool (entryB x e)) ∧ Below w.heap.size w w' := by
 have L1 : Hid (∀ W, Calls Tryz.prog 64 #[.int .i64 e.kind, .int .i64 1, .int .i64 3] W fun r w' => r = .returned (.bool (decide (1 ≤ e.kind) && decide (e.kind ≤ 3))) ∧ w' = W) := fun W => inC _ _ _ W
 have L2 : Hid (∀ W, Calls Tryz.prog 64 #[.int .i64 e.start, .int .i64 1, .int .i64 x.events] W fun r w' => r = .returned (.bool (decide (1 ≤ e.start) && decide (e.start ≤ x.events))) ∧ w' = W) := fun W => inC _ _ _ W
 have L3 : Hid (∀ W, Calls Tryz.prog 64 #[.int .i64 e.fin, .int .i64 e.start, .int .i64 x.events] W fun r w' => r = .returned (.bool (decide (e.start ≤ e.fin) && decide (e.fin ≤ x.events))) ∧ w' = W) := fun W => inC _ _ _ W
 have L4 : Hid (∀ W, Calls Tryz.prog 64 #[.int .i64 e.place, .int .i64 0, .int .i64 40] W fun r w' => r = .returned (.bool (decide (0 ≤ e.place) && decide (e.place ≤ 40))) ∧ w' = W) := fun W => inC _ _ _ W
 have HP : Hid (entryB x e = ((decide (1 ≤ e.kind) && decide (e.kind ≤ 3)) && ((decide (1 ≤ e.start) && decide (e.start ≤ x.events)) && ((e.fin == 0 || (decide (e.start ≤ e.fin) && decide (e.fin ≤ x.events))) && (decide (0 ≤ e.place) && decide (e.place ≤ 40)))))) := rfl
 generalize entryB x e = r at *
 have HBD : Hid (Below w.heap.size w w.drew) := (Below.refl _ _).drew
 have y1 := Box.at hX.drew 1 _ rfl
 have z0 := hE.drew.at 0 _ rfl
 have z6 := hE.drew.at 6 _ rfl
 have z7 := hE.drew.at 7 _ rfl
 have z8 := hE.drew.at 8 _ rfl
 simp only [List.getElem_toArray, List.getElem_cons_zero, List.getElem_cons_succ, Nat.add_zero] at y1 z0 z6 z7 z8
 clear hX hE
 generalize (decide (1 ≤ e.kind) && decide (e.kind ≤ 3)) = A at *
 generalize (decide (1 ≤ e.start) && decide (e.start ≤ x.events)) = B at *
 generalize (decide (e.start ≤ e.fin) && decide (e.fin ≤ x.events)) = C at *
 generalize (decide (0 ≤ e.place) && decide (e.place ≤ 40)) = D at *
 generalize hz : (e.fin == 0) = Z at *
 go_enter Tryz.func181, Tryz.ntmps181
 cases A
 ·
  go_wp2_with fail
  refine wp_region_noPanic ?_
  refine wp_region_held_drew (S := fun w' => w' = w.drew) (by kernel_rfl) rfl (fun zq => ?_)
  generalize w.drew = wD at zq y1 z0 z6 z7 z8 HBD ⊢
  refine tkH (i := 0) (oi := o138x1) (v := ?vp1_0) rfl ?hp1_0 zq ?rp1_0
  case hp1_0 =>
   intro wS hSw
   subst hSw
   (try dsimp only at hSw)
   go_simp
   try with_reducible rfl
  refine tkH (i := 1) (oi := o138x2) (v := ?vp1_1) rfl ?hp1_1 zq ?rp1_1
  case hp1_1 =>
   intro wS hSw
   subst hSw
   (try dsimp only at hSw)
   go_simp
   try with_reducible rfl
  refine tkH (i := 2) (oi := o138x3) (v := ?vp1_2) rfl ?hp1_2 zq ?rp1_2
  case hp1_2 =>
   intro wS hSw
   subst hSw
   (try dsimp only at hSw)
   go_simp
   try with_reducible rfl
  refine tkH (i := 3) (oi := o138x4) (v := ?vp1_3) rfl ?hp1_3 zq ?rp1_3
  case hp1_3 =>
   intro wS hSw
   subst hSw
   (try dsimp only at hSw)
   go_simp
   try with_reducible rfl
  refine rdH (i := 4) (oi := o138x5) rfl (fun K hK => ?_)
  go_simp
  go_at_call 64
  refine (uh L1 wD).mono ?_
  rintro e u1 ⟨rfl, h1⟩
  subst u1
  try go_wp2_with fail
  refine hK.out _ _ rfl (fun zq => ?_)
  clear hK K
  try simp only [Act.put, pz, py, px]
  refine tkH (i := 5) (oi := o138x6) (v := ?vp1_5) rfl ?hp1_5 zq ?rp1_5
  case hp1_5 =>
   intro wS hSw
   subst hSw
   (try dsimp only at hSw)
   go_simp
   try with_reducible rfl
  refine skH (i := 6) (oi := o138x7) rfl zq ?_
  refine skH (i := 7) (oi := o138x8) rfl zq ?_
  refine skH (i := 8) (oi := o138x9) rfl zq ?_
  refine skH (i := 9) (oi := o138x10) rfl zq ?_
  refine skH (i := 10) (oi := o138x11) rfl zq ?_
  refine skH (i := 11) (oi := o138x12) rfl zq ?_
  refine skH (i := 12) (oi := o138x13) rfl zq ?_
  refine skH (i := 13) (oi := o138x14) rfl zq ?_
  refine skH (i := 14) (oi := o138x15) rfl zq ?_
  refine tkH (i := 15) (oi := o138x16) (v := ?vp1_15) rfl ?hp1_15 zq ?rp1_15
  case hp1_15 =>
   intro wS hSw
   subst hSw
   (try dsimp only at hSw)
   go_simp
   try with_reducible rfl
  refine tkH (i := 16) (oi := o138x17) (v := ?vp1_16) rfl ?hp1_16 zq ?rp1_16
  case hp1_16 =>
   intro wS hSw
   subst hSw
   (try dsimp only at hSw)
   go_simp
   try with_reducible rfl
  refine skH (i := 17) (oi := o138x18) rfl zq ?_
  refine skH (i := 18) (oi := o138x19) rfl zq ?_
  refine skH (i := 19) (oi := o138x20) rfl zq ?_
  refine skH (i := 20) (oi := o138x21) rfl zq ?_
  refine skH (i := 21) (oi := o138x22) rfl zq ?_
  refine skH (i := 22) (oi := o138x23) rfl zq ?_
  refine skH (i := 23) (oi := o138x24) rfl zq ?_
  refine skH (i := 24) (oi := o138x25) rfl zq ?_
  refine skH (i := 25) (oi := o138x26) rfl zq ?_
  refine skH (i := 26) (oi := o138x27) rfl zq ?_
  refine skH (i := 27) (oi := o138x28) rfl zq ?_
  refine skH (i := 28) (oi := o138x29) rfl zq ?_
  refine skH (i := 29) (oi := o138x30) rfl zq ?_
  refine skH (i := 30) (oi := o138x31) rfl zq ?_
  refine skH (i := 31) (oi := o138x32) rfl zq ?_
  refine skH (i := 32) (oi := o138x33) rfl zq ?_
  refine skH (i := 33) (oi := o138x34) rfl zq ?_
  refine skH (i := 34) (oi := o138x35) rfl zq ?_
  refine skH (i := 35) (oi := o138x36) rfl zq ?_
  refine skH (i := 36) (oi := o138x37) rfl zq ?_
  refine tkH (i := 37) (oi := o138x38) (v := ?vp1_37) rfl ?hp1_37 zq ?rp1_37
  case hp1_37 =>
   intro wS hSw
   subst hSw
   (try dsimp only at hSw)
   go_simp
   try with_reducible rfl
  refine tkH (i := 38) (oi := o138x39) (v := ?vp1_38) rfl ?hp1_38 zq ?rp1_38
  case hp1_38 =>
   intro wS hSw
   subst hSw
   (try dsimp only at hSw)
   go_simp
   try with_reducible rfl
  refine skH (i := 39) (oi := o138x40) rfl zq ?_
  refine skH (i := 40) (oi := o138x41) rfl zq ?_
  refine skH (i := 41) (oi := o138x42) rfl zq ?_
  refine skH (i := 42) (oi := o138x43) rfl zq ?_
  refine skH (i := 43) (oi := o138x44) rfl zq ?_
  refine tkH (i := 44) (oi := o138x45) (v := ?vp1_44) rfl ?hp1_44 zq ?rp1_44
  case hp1_44 =>
   intro wS hSw
   subst hSw
   (try dsimp only at hSw)
   go_simp
   try with_reducible rfl
  refine tkH (i := 45) (oi := o138x46) (v := ?vp1_45) rfl ?hp1_45 zq ?rp1_45
  case hp1_45 =>
   intro wS hSw
   subst hSw
   (try dsimp only at hSw)
   go_simp
   try with_reducible rfl
  refine wpAnyH_done (by kernel_rfl) ?_ _
  refine NoPanic.normal ?_
  clear zq
  go_wp2_with fail
  go_ret
  exact ⟨by rw [uh HP]; simp, uh HBD⟩
 cases B
 ·
  go_wp2_with fail
  refine wp_region_noPanic ?_
  refine wp_region_held_drew (S := fun w' => w' = w.drew) (by kernel_rfl) rfl (fun zq => ?_)
  generalize w.drew = wD at zq y1 z0 z6 z7 z8 HBD ⊢
  refine tkH (i := 0) (oi := o138x1) (v := ?vp2_0) rfl ?hp2_0 zq ?rp2_0
  case hp2_0 =>
   intro wS hSw
   subst hSw
   (try dsimp only at hSw)
   go_simp
   try with_reducible rfl
  refine tkH (i := 1) (oi := o138x2) (v := ?vp2_1) rfl ?hp2_1 zq ?rp2_1
  case hp2_1 =>
   intro wS hSw
   subst hSw
   (try dsimp only at hSw)
   go_simp
   try with_reducible rfl
  refine tkH (i := 2) (oi := o138x3) (v := ?vp2_2) rfl ?hp2_2 zq ?rp2_2
  case hp2_2 =>
   intro wS hSw
   subst hSw
   (try dsimp only at hSw)
   go_simp
   try with_reducible rfl
  refine tkH (i := 3) (oi := o138x4) (v := ?vp2_3) rfl ?hp2_3 zq ?rp2_3
  case hp2_3 =>
   intro wS hSw
   subst hSw
   (try dsimp only at hSw)
   go_simp
   try with_reducible rfl
  refine rdH (i := 4) (oi := o138x5) rfl (fun K hK => ?_)
  go_simp
  go_at_call 64
  refine (uh L1 wD).mono ?_
  rintro e u1 ⟨rfl, h1⟩
  subst u1
  try go_wp2_with fail
  refine hK.out _ _ rfl (fun zq => ?_)
  clear hK K
  try simp only [Act.put, pz, py, px]
  refine tkH (i := 5) (oi := o138x6) (v := ?vp2_5) rfl ?hp2_5 zq ?rp2_5
  case hp2_5 =>
   intro wS hSw
   subst hSw
   (try dsimp only at hSw)
   go_simp
   try with_reducible rfl
  refine tkH (i := 6) (oi := o138x7) (v := ?vp2_6) rfl ?hp2_6 zq ?rp2_6
  case hp2_6 =>
   intro wS hSw
   subst hSw
   (try dsimp only at hSw)
   go_simp
   try with_reducible rfl
  refine tkH (i := 7) (oi := o138x8) (v := ?vp2_7) rfl ?hp2_7 zq ?rp2_7
  case hp2_7 =>
   intro wS hSw
   subst hSw
   (try dsimp only at hSw)
   go_simp
   try with_reducible rfl
  refine tkH (i := 8) (oi := o138x9) (v := ?vp2_8) rfl ?hp2_8 zq ?rp2_8
  case hp2_8 =>
   intro wS hSw
   subst hSw
   (try dsimp only at hSw)
   go_simp
   try with_reducible rfl
  refine tkH (i := 9) (oi := o138x10) (v := ?vp2_9) rfl ?hp2_9 zq ?rp2_9
  case hp2_9 =>
   intro wS hSw
   subst hSw
   (try dsimp only at hSw)
   go_simp
   try with_reducible rfl
  refine tkH (i := 10) (oi := o138x11) (v := ?vp2_10) rfl ?hp2_10 zq ?rp2_10
  case hp2_10 =>
   intro wS hSw
   subst hSw
   (try dsimp only at hSw)
   go_simp
   try with_reducible rfl
  refine tkH (i := 11) (oi := o138x12) (v := ?vp2_11) rfl ?hp2_11 zq ?rp2_11
  case hp2_11 =>
   intro wS hSw
   subst hSw
   (try dsimp only at hSw)
   go_simp
   try with_reducible rfl
  refine tkH (i := 12) (oi := o138x13) (v := ?vp2_12) rfl ?hp2_12 zq ?rp2_12
  case hp2_12 =>
   intro wS hSw
   subst hSw
   (try dsimp only at hSw)
   go_simp
   try with_reducible rfl
  refine tkH (i := 13) (oi := o138x14) (v := ?vp2_13) rfl ?hp2_13 zq ?rp2_13
  case hp2_13 =>
   intro wS hSw
   subst hSw
   (try dsimp only at hSw)
   go_simp
   try with_reducible rfl
  refine rdH (i := 14) (oi := o138x15) rfl (fun K hK => ?_)
  go_simp
  go_at_call 64
  refine (uh L2 wD).mono ?_
  rintro e u1 ⟨rfl, h1⟩
  subst u1
  try go_wp2_with fail
  refine hK.out _ _ rfl (fun zq => ?_)
  clear hK K
  try simp only [Act.put, pz, py, px]
  refine tkH (i := 15) (oi := o138x16) (v := ?vp2_15) rfl ?hp2_15 zq ?rp2_15
  case hp2_15 =>
   intro wS hSw
   subst hSw
   (try dsimp only at hSw)
   go_simp
   try with_reducible rfl
  refine tkH (i := 16) (oi := o138x17) (v := ?vp2_16) rfl ?hp2_16 zq ?rp2_16
  case hp2_16 =>
   intro wS hSw
   subst hSw
   (try dsimp only at hSw)
   go_simp
   try with_reducible rfl
  refine skH (i := 17) (oi := o138x18) rfl zq ?_
  refine skH (i := 18) (oi := o138x19) rfl zq ?_
  refine skH (i := 19) (oi := o138x20) rfl zq ?_
  refine skH (i := 20) (oi := o138x21) rfl zq ?_
  refine skH (i := 21) (oi := o138x22) rfl zq ?_
  refine skH (i := 22) (oi := o138x23) rfl zq ?_
  refine skH (i := 23) (oi := o138x24) rfl zq ?_
  refine skH (i := 24) (oi := o138x25) rfl zq ?_
  refine skH (i := 25) (oi := o138x26) rfl zq ?_
  refine skH (i := 26) (oi := o138x27) rfl zq ?_
  refine skH (i := 27) (oi := o138x28) rfl zq ?_
  refine skH (i := 28) (oi := o138x29) rfl zq ?_
  refine skH (i := 29) (oi := o138x30) rfl zq ?_
  refine skH (i := 30) (oi := o138x31) rfl zq ?_
  refine skH (i := 31) (oi := o138x32) rfl zq ?_
  refine skH (i := 32) (oi := o138x33) rfl zq ?_
  refine skH (i := 33) (oi := o138x34) rfl zq ?_
  refine skH (i := 34) (oi := o138x35) rfl zq ?_
  refine skH (i := 35) (oi := o138x36) rfl zq ?_
  refine skH (i := 36) (oi := o138x37) rfl zq ?_
  refine tkH (i := 37) (oi := o138x38) (v := ?vp2_37) rfl ?hp2_37 zq ?rp2_37
  case hp2_37 =>
   intro wS hSw
   subst hSw
   (try dsimp only at hSw)
   go_simp
   try with_reducible rfl
  refine tkH (i := 38) (oi := o138x39) (v := ?vp2_38) rfl ?hp2_38 zq ?rp2_38
  case hp2_38 =>
   intro wS hSw
   subst hSw
   (try dsimp only at hSw)
   go_simp
   try with_reducible rfl
  refine skH (i := 39) (oi := o138x40) rfl zq ?_
  refine skH (i := 40) (oi := o138x41) rfl zq ?_
  refine skH (i := 41) (oi := o138x42) rfl zq ?_
  refine skH (i := 42) (oi := o138x43) rfl zq ?_
  refine skH (i := 43) (oi := o138x44) rfl zq ?_
  refine tkH (i := 44) (oi := o138x45) (v := ?vp2_44) rfl ?hp2_44 zq ?rp2_44
  case hp2_44 =>
   intro wS hSw
   subst hSw
   (try dsimp only at hSw)
   go_simp
   try with_reducible rfl
  refine tkH (i := 45) (oi := o138x46) (v := ?vp2_45) rfl ?hp2_45 zq ?rp2_45
  case hp2_45 =>
   intro wS hSw
   subst hSw
   (try dsimp only at hSw)
   go_simp
   try with_reducible rfl
  refine wpAnyH_done (by kernel_rfl) ?_ _
  refine NoPanic.normal ?_
  clear zq
  go_wp2_with fail
  go_ret
  exact ⟨by rw [uh HP]; simp, uh HBD⟩
 cases Z
 ·
  cases C
  ·
   go_wp2_with fail
   refine wp_region_noPanic ?_
   refine wp_region_held_drew (S := fun w' => w' = w.drew) (by kernel_rfl) rfl (fun zq => ?_)
   generalize w.drew = wD at zq y1 z0 z6 z7 z8 HBD ⊢
   refine tkH (i := 0) (oi := o138x1) (v := ?vp3_0) rfl ?hp3_0 zq ?rp3_0
   case hp3_0 =>
    intro wS hSw
    subst hSw
    (try dsimp only at hSw)
    go_simp
    try with_reducible rfl
   refine tkH (i := 1) (oi := o138x2) (v := ?vp3_1) rfl ?hp3_1 zq ?rp3_1
   case hp3_1 =>
    intro wS hSw
    subst hSw
    (try dsimp only at hSw)
    go_simp
    try with_reducible rfl
   refine tkH (i := 2) (oi := o138x3) (v := ?vp3_2) rfl ?hp3_2 zq ?rp3_2
   case hp3_2 =>
    intro wS hSw
    subst hSw
    (try dsimp only at hSw)
    go_simp
    try with_reducible rfl
   refine tkH (i := 3) (oi := o138x4) (v := ?vp3_3) rfl ?hp3_3 zq ?rp3_3
   case hp3_3 =>
    intro wS hSw
    subst hSw
    (try dsimp only at hSw)
    go_simp
    try with_reducible rfl
   refine rdH (i := 4) (oi := o138x5) rfl (fun K hK => ?_)
   go_simp
   go_at_call 64
   refine (uh L1 wD).mono ?_
   rintro e u1 ⟨rfl, h1⟩
   subst u1
   try go_wp2_with fail
   refine hK.out _ _ rfl (fun zq => ?_)
   clear hK K
   try simp only [Act.put, pz, py, px]
   refine tkH (i := 5) (oi := o138x6) (v := ?vp3_5) rfl ?hp3_5 zq ?rp3_5
   case hp3_5 =>
    intro wS hSw
    subst hSw
    (try dsimp only at hSw)
    go_simp
    try with_reducible rfl
   refine tkH (i := 6) (oi := o138x7) (v := ?vp3_6) rfl ?hp3_6 zq ?rp3_6
   case hp3_6 =>
    intro wS hSw
    subst hSw
    (try dsimp only at hSw)
    go_simp
    try with_reducible rfl
   refine tkH (i := 7) (oi := o138x8) (v := ?vp3_7) rfl ?hp3_7 zq ?rp3_7
   case hp3_7 =>
    intro wS hSw
    subst hSw
    (try dsimp only at hSw)
    go_simp
    try with_reducible rfl
   refine tkH (i := 8) (oi := o138x9) (v := ?vp3_8) rfl ?hp3_8 zq ?rp3_8
   case hp3_8 =>
    intro wS hSw
    subst hSw
    (try dsimp only at hSw)
    go_simp
    try with_reducible rfl
   refine tkH (i := 9) (oi := o138x10) (v := ?vp3_9) rfl ?hp3_9 zq ?rp3_9
   case hp3_9 =>
    intro wS hSw
    subst hSw
    (try dsimp only at hSw)
    go_simp
    try with_reducible rfl
   refine tkH (i := 10) (oi := o138x11) (v := ?vp3_10) rfl ?hp3_10 zq ?rp3_10
   case hp3_10 =>
    intro wS hSw
    subst hSw
    (try dsimp only at hSw)
    go_simp
    try with_reducible rfl
   refine tkH (i := 11) (oi := o138x12) (v := ?vp3_11) rfl ?hp3_11 zq ?rp3_11
   case hp3_11 =>
    intro wS hSw
    subst hSw
    (try dsimp only at hSw)
    go_simp
    try with_reducible rfl
   refine tkH (i := 12) (oi := o138x13) (v := ?vp3_12) rfl ?hp3_12 zq ?rp3_12
   case hp3_12 =>
    intro wS hSw
    subst hSw
    (try dsimp only at hSw)
    go_simp
    try with_reducible rfl
   refine tkH (i := 13) (oi := o138x14) (v := ?vp3_13) rfl ?hp3_13 zq ?rp3_13
   case hp3_13 =>
    intro wS hSw
    subst hSw
    (try dsimp only at hSw)
    go_simp
    try with_reducible rfl
   refine rdH (i := 14) (oi := o138x15) rfl (fun K hK => ?_)
   go_simp
   go_at_call 64
   refine (uh L2 wD).mono ?_
   rintro e u1 ⟨rfl, h1⟩
   subst u1
   try go_wp2_with fail
   refine hK.out _ _ rfl (fun zq => ?_)
   clear hK K
   try simp only [Act.put, pz, py, px]
   refine tkH (i := 15) (oi := o138x16) (v := ?vp3_15) rfl ?hp3_15 zq ?rp3_15
   case hp3_15 =>
    intro wS hSw
    subst hSw
    (try dsimp only at hSw)
    go_simp
    try with_reducible rfl
   refine tkH (i := 16) (oi := o138x17) (v := ?vp3_16) rfl ?hp3_16 zq ?rp3_16
   case hp3_16 =>
    intro wS hSw
    subst hSw
    (try dsimp only at hSw)
    go_simp
    try with_reducible rfl
   refine tkH (i := 17) (oi := o138x18) (v := ?vp3_17) rfl ?hp3_17 zq ?rp3_17
   case hp3_17 =>
    intro wS hSw
    subst hSw
    (try dsimp only at hSw)
    go_simp
    try with_reducible rfl
   refine tkH (i := 18) (oi := o138x19) (v := ?vp3_18) rfl ?hp3_18 zq ?rp3_18
   case hp3_18 =>
    intro wS hSw
    subst hSw
    (try dsimp only at hSw)
    go_simp
    try with_reducible rfl
   refine tkH (i := 19) (oi := o138x20) (v := ?vp3_19) rfl ?hp3_19 zq ?rp3_19
   case hp3_19 =>
    intro wS hSw
    subst hSw
    (try dsimp only at hSw)
    go_simp
    try with_reducible rfl
   refine tkH (i := 20) (oi := o138x21) (v := ?vp3_20) rfl ?hp3_20 zq ?rp3_20
   case hp3_20 =>
    intro wS hSw
    subst hSw
    (try dsimp only at hSw)
    go_simp
    try with_reducible rfl
   refine tkH (i := 21) (oi := o138x22) (v := ?vp3_21) rfl ?hp3_21 zq ?rp3_21
   case hp3_21 =>
    intro wS hSw
    subst hSw
    (try dsimp only at hSw)
    go_simp
    try with_reducible rfl
   refine tkH (i := 22) (oi := o138x23) (v := ?vp3_22) rfl ?hp3_22 zq ?rp3_22
   case hp3_22 =>
    intro wS hSw
    subst hSw
    (try dsimp only at hSw)
    go_simp
    try with_reducible rfl
   refine tkH (i := 23) (oi := o138x24) (v := ?vp3_23) rfl ?hp3_23 zq ?rp3_23
   case hp3_23 =>
    intro wS hSw
    subst hSw
    (try dsimp only at hSw)
    go_simp
    try with_reducible rfl
   refine tkH (i := 24) (oi := o138x25) (v := ?vp3_24) rfl ?hp3_24 zq ?rp3_24
   case hp3_24 =>
    intro wS hSw
    subst hSw
    (try dsimp only at hSw)
    go_simp
    try with_reducible rfl
   refine tkH (i := 25) (oi := o138x26) (v := ?vp3_25) rfl ?hp3_25 zq ?rp3_25
   case hp3_25 =>
    intro wS hSw
    subst hSw
    (try dsimp only at hSw)
    go_simp
    try with_reducible rfl
   refine tkH (i := 26) (oi := o138x27) (v := ?vp3_26) rfl ?hp3_26 zq ?rp3_26
   case hp3_26 =>
    intro wS hSw
    subst hSw
    (try dsimp only at hSw)
    go_simp
    try with_reducible rfl
   refine tkH (i := 27) (oi := o138x28) (v := ?vp3_27) rfl ?hp3_27 zq ?rp3_27
   case hp3_27 =>
    intro wS hSw
    subst hSw
    (try dsimp only at hSw)
    go_simp
    try with_reducible rfl
   refine tkH (i := 28) (oi := o138x29) (v := ?vp3_28) rfl ?hp3_28 zq ?rp3_28
   case hp3_28 =>
    intro wS hSw
    subst hSw
    (try dsimp only at hSw)
    go_simp
    try with_reducible rfl
   refine tkH (i := 29) (oi := o138x30) (v := ?vp3_29) rfl ?hp3_29 zq ?rp3_29
   case hp3_29 =>
    intro wS hSw
    subst hSw
    (try dsimp only at hSw)
    go_simp
    try with_reducible rfl
   refine tkH (i := 30) (oi := o138x31) (v := ?vp3_30) rfl ?hp3_30 zq ?rp3_30
   case hp3_30 =>
    intro wS hSw
    subst hSw
    (try dsimp only at hSw)
    go_simp
    try with_reducible rfl
   refine tkH (i := 31) (oi := o138x32) (v := ?vp3_31) rfl ?hp3_31 zq ?rp3_31
   case hp3_31 =>
    intro wS hSw
    subst hSw
    (try dsimp only at hSw)
    go_simp
    try with_reducible rfl
   refine tkH (i := 32) (oi := o138x33) (v := ?vp3_32) rfl ?hp3_32 zq ?rp3_32
   case hp3_32 =>
    intro wS hSw
    subst hSw
    (try dsimp only at hSw)
    go_simp
    try with_reducible rfl
   refine tkH (i := 33) (oi := o138x34) (v := ?vp3_33) rfl ?hp3_33 zq ?rp3_33
   case hp3_33 =>
    intro wS hSw
    subst hSw
    (try dsimp only at hSw)
    go_simp
    try with_reducible rfl
   refine tkH (i := 34) (oi := o138x35) (v := ?vp3_34) rfl ?hp3_34 zq ?rp3_34
   case hp3_34 =>
    intro wS hSw
    subst hSw
    (try dsimp only at hSw)
    go_simp
    try with_reducible rfl
   refine rdH (i := 35) (oi := o138x36) rfl (fun K hK => ?_)
   go_simp
   go_at_call 64
   refine (uh L3 wD).mono ?_
   rintro e u1 ⟨rfl, h1⟩
   subst u1
   try go_wp2_with fail
   refine hK.out _ _ rfl (fun zq => ?_)
   clear hK K
   try simp only [Act.put, pz, py, px]
   refine tkH (i := 36) (oi := o138x37) (v := ?vp3_36) rfl ?hp3_36 zq ?rp3_36
   case hp3_36 =>
    intro wS hSw
    subst hSw
    (try dsimp only at hSw)
    go_simp
    try with_reducible rfl
   refine tkH (i := 37) (oi := o138x38) (v := ?vp3_37) rfl ?hp3_37 zq ?rp3_37
   case hp3_37 =>
    intro wS hSw
    subst hSw
    (try dsimp only at hSw)
    go_simp
    try with_reducible rfl
   refine tkH (i := 38) (oi := o138x39) (v := ?vp3_38) rfl ?hp3_38 zq ?rp3_38
   case hp3_38 =>
    intro wS hSw
    subst hSw
    (try dsimp only at hSw)
    go_simp
    try with_reducible rfl
   refine skH (i := 39) (oi := o138x40) rfl zq ?_
   refine skH (i := 40) (oi := o138x41) rfl zq ?_
   refine skH (i := 41) (oi := o138x42) rfl zq ?_
   refine skH (i := 42) (oi := o138x43) rfl zq ?_
   refine skH (i := 43) (oi := o138x44) rfl zq ?_
   refine tkH (i := 44) (oi := o138x45) (v := ?vp3_44) rfl ?hp3_44 zq ?rp3_44
   case hp3_44 =>
    intro wS hSw
    subst hSw
    (try dsimp only at hSw)
    go_simp
    try with_reducible rfl
   refine tkH (i := 45) (oi := o138x46) (v := ?vp3_45) rfl ?hp3_45 zq ?rp3_45
   case hp3_45 =>
    intro wS hSw
    subst hSw
    (try dsimp only at hSw)
    go_simp
    try with_reducible rfl
   refine wpAnyH_done (by kernel_rfl) ?_ _
   refine NoPanic.normal ?_
   clear zq
   go_wp2_with fail
   go_ret
   exact ⟨by rw [uh HP]; simp, uh HBD⟩
  go_wp2_with fail
  refine wp_region_noPanic ?_
  refine wp_region_held_drew (S := fun w' => w' = w.drew) (by kernel_rfl) rfl (fun zq => ?_)
  generalize w.drew = wD at zq y1 z0 z6 z7 z8 HBD ⊢
  refine tkH (i := 0) (oi := o138x1) (v := ?vp4_0) rfl ?hp4_0 zq ?rp4_0
  case hp4_0 =>
   intro wS hSw
   subst hSw
   (try dsimp only at hSw)
   go_simp
   try with_reducible rfl
  refine tkH (i := 1) (oi := o138x2) (v := ?vp4_1) rfl ?hp4_1 zq ?rp4_1
  case hp4_1 =>
   intro wS hSw
   subst hSw
   (try dsimp only at hSw)
   go_simp
   try with_reducible rfl
  refine tkH (i := 2) (oi := o138x3) (v := ?vp4_2) rfl ?hp4_2 zq ?rp4_2
  case hp4_2 =>
   intro wS hSw
   subst hSw
   (try dsimp only at hSw)
   go_simp
   try with_reducible rfl
  refine tkH (i := 3) (oi := o138x4) (v := ?vp4_3) rfl ?hp4_3 zq ?rp4_3
  case hp4_3 =>
   intro wS hSw
   subst hSw
   (try dsimp only at hSw)
   go_simp
   try with_reducible rfl
  refine rdH (i := 4) (oi := o138x5) rfl (fun K hK => ?_)
  go_simp
  go_at_call 64
  refine (uh L1 wD).mono ?_
  rintro e u1 ⟨rfl, h1⟩
  subst u1
  try go_wp2_with fail
  refine hK.out _ _ rfl (fun zq => ?_)
  clear hK K
  try simp only [Act.put, pz, py, px]
  refine tkH (i := 5) (oi := o138x6) (v := ?vp4_5) rfl ?hp4_5 zq ?rp4_5
  case hp4_5 =>
   intro wS hSw
   subst hSw
   (try dsimp only at hSw)
   go_simp
   try with_reducible rfl
  refine tkH (i := 6) (oi := o138x7) (v := ?vp4_6) rfl ?hp4_6 zq ?rp4_6
  case hp4_6 =>
   intro wS hSw
   subst hSw
   (try dsimp only at hSw)
   go_simp
   try with_reducible rfl
  refine tkH (i := 7) (oi := o138x8) (v := ?vp4_7) rfl ?hp4_7 zq ?rp4_7
  case hp4_7 =>
   intro wS hSw
   subst hSw
   (try dsimp only at hSw)
   go_simp
   try with_reducible rfl
  refine tkH (i := 8) (oi := o138x9) (v := ?vp4_8) rfl ?hp4_8 zq ?rp4_8
  case hp4_8 =>
   intro wS hSw
   subst hSw
   (try dsimp only at hSw)
   go_simp
   try with_reducible rfl
  refine tkH (i := 9) (oi := o138x10) (v := ?vp4_9) rfl ?hp4_9 zq ?rp4_9
  case hp4_9 =>
   intro wS hSw
   subst hSw
   (try dsimp only at hSw)
   go_simp
   try with_reducible rfl
  refine tkH (i := 10) (oi := o138x11) (v := ?vp4_10) rfl ?hp4_10 zq ?rp4_10
  case hp4_10 =>
   intro wS hSw
   subst hSw
   (try dsimp only at hSw)
   go_simp
   try with_reducible rfl
  refine tkH (i := 11) (oi := o138x12) (v := ?vp4_11) rfl ?hp4_11 zq ?rp4_11
  case hp4_11 =>
   intro wS hSw
   subst hSw
   (try dsimp only at hSw)
   go_simp
   try with_reducible rfl
  refine tkH (i := 12) (oi := o138x13) (v := ?vp4_12) rfl ?hp4_12 zq ?rp4_12
  case hp4_12 =>
   intro wS hSw
   subst hSw
   (try dsimp only at hSw)
   go_simp
   try with_reducible rfl
  refine tkH (i := 13) (oi := o138x14) (v := ?vp4_13) rfl ?hp4_13 zq ?rp4_13
  case hp4_13 =>
   intro wS hSw
   subst hSw
   (try dsimp only at hSw)
   go_simp
   try with_reducible rfl
  refine rdH (i := 14) (oi := o138x15) rfl (fun K hK => ?_)
  go_simp
  go_at_call 64
  refine (uh L2 wD).mono ?_
  rintro e u1 ⟨rfl, h1⟩
  subst u1
  try go_wp2_with fail
  refine hK.out _ _ rfl (fun zq => ?_)
  clear hK K
  try simp only [Act.put, pz, py, px]
  refine tkH (i := 15) (oi := o138x16) (v := ?vp4_15) rfl ?hp4_15 zq ?rp4_15
  case hp4_15 =>
   intro wS hSw
   subst hSw
   (try dsimp only at hSw)
   go_simp
   try with_reducible rfl
  refine tkH (i := 16) (oi := o138x17) (v := ?vp4_16) rfl ?hp4_16 zq ?rp4_16
  case hp4_16 =>
   intro wS hSw
   subst hSw
   (try dsimp only at hSw)
   go_simp
   try with_reducible rfl
  refine tkH (i := 17) (oi := o138x18) (v := ?vp4_17) rfl ?hp4_17 zq ?rp4_17
  case hp4_17 =>
   intro wS hSw
   subst hSw
   (try dsimp only at hSw)
   go_simp
   try with_reducible rfl
  refine tkH (i := 18) (oi := o138x19) (v := ?vp4_18) rfl ?hp4_18 zq ?rp4_18
  case hp4_18 =>
   intro wS hSw
   subst hSw
   (try dsimp only at hSw)
   go_simp
   try with_reducible rfl
  refine tkH (i := 19) (oi := o138x20) (v := ?vp4_19) rfl ?hp4_19 zq ?rp4_19
  case hp4_19 =>
   intro wS hSw
   subst hSw
   (try dsimp only at hSw)
   go_simp
   try with_reducible rfl
  refine tkH (i := 20) (oi := o138x21) (v := ?vp4_20) rfl ?hp4_20 zq ?rp4_20
  case hp4_20 =>
   intro wS hSw
   subst hSw
   (try dsimp only at hSw)
   go_simp
   try with_reducible rfl
  refine tkH (i := 21) (oi := o138x22) (v := ?vp4_21) rfl ?hp4_21 zq ?rp4_21
  case hp4_21 =>
   intro wS hSw
   subst hSw
   (try dsimp only at hSw)
   go_simp
   try with_reducible rfl
  refine tkH (i := 22) (oi := o138x23) (v := ?vp4_22) rfl ?hp4_22 zq ?rp4_22
  case hp4_22 =>
   intro wS hSw
   subst hSw
   (try dsimp only at hSw)
   go_simp
   try with_reducible rfl
  refine tkH (i := 23) (oi := o138x24) (v := ?vp4_23) rfl ?hp4_23 zq ?rp4_23
  case hp4_23 =>
   intro wS hSw
   subst hSw
   (try dsimp only at hSw)
   go_simp
   try with_reducible rfl
  refine tkH (i := 24) (oi := o138x25) (v := ?vp4_24) rfl ?hp4_24 zq ?rp4_24
  case hp4_24 =>
   intro wS hSw
   subst hSw
   (try dsimp only at hSw)
   go_simp
   try with_reducible rfl
  refine tkH (i := 25) (oi := o138x26) (v := ?vp4_25) rfl ?hp4_25 zq ?rp4_25
  case hp4_25 =>
   intro wS hSw
   subst hSw
   (try dsimp only at hSw)
   go_simp
   try with_reducible rfl
  refine tkH (i := 26) (oi := o138x27) (v := ?vp4_26) rfl ?hp4_26 zq ?rp4_26
  case hp4_26 =>
   intro wS hSw
   subst hSw
   (try dsimp only at hSw)
   go_simp
   try with_reducible rfl
  refine tkH (i := 27) (oi := o138x28) (v := ?vp4_27) rfl ?hp4_27 zq ?rp4_27
  case hp4_27 =>
   intro wS hSw
   subst hSw
   (try dsimp only at hSw)
   go_simp
   try with_reducible rfl
  refine tkH (i := 28) (oi := o138x29) (v := ?vp4_28) rfl ?hp4_28 zq ?rp4_28
  case hp4_28 =>
   intro wS hSw
   subst hSw
   (try dsimp only at hSw)
   go_simp
   try with_reducible rfl
  refine tkH (i := 29) (oi := o138x30) (v := ?vp4_29) rfl ?hp4_29 zq ?rp4_29
  case hp4_29 =>
   intro wS hSw
   subst hSw
   (try dsimp only at hSw)
   go_simp
   try with_reducible rfl
  refine tkH (i := 30) (oi := o138x31) (v := ?vp4_30) rfl ?hp4_30 zq ?rp4_30
  case hp4_30 =>
   intro wS hSw
   subst hSw
   (try dsimp only at hSw)
   go_simp
   try with_reducible rfl
  refine tkH (i := 31) (oi := o138x32) (v := ?vp4_31) rfl ?hp4_31 zq ?rp4_31
  case hp4_31 =>
   intro wS hSw
   subst hSw
   (try dsimp only at hSw)
   go_simp
   try with_reducible rfl
  refine tkH (i := 32) (oi := o138x33) (v := ?vp4_32) rfl ?hp4_32 zq ?rp4_32
  case hp4_32 =>
   intro wS hSw
   subst hSw
   (try dsimp only at hSw)
   go_simp
   try with_reducible rfl
  refine tkH (i := 33) (oi := o138x34) (v := ?vp4_33) rfl ?hp4_33 zq ?rp4_33
  case hp4_33 =>
   intro wS hSw
   subst hSw
   (try dsimp only at hSw)
   go_simp
   try with_reducible rfl
  refine tkH (i := 34) (oi := o138x35) (v := ?vp4_34) rfl ?hp4_34 zq ?rp4_34
  case hp4_34 =>
   intro wS hSw
   subst hSw
   (try dsimp only at hSw)
   go_simp
   try with_reducible rfl
  refine rdH (i := 35) (oi := o138x36) rfl (fun K hK => ?_)
  go_simp
  go_at_call 64
  refine (uh L3 wD).mono ?_
  rintro e u1 ⟨rfl, h1⟩
  subst u1
  try go_wp2_with fail
  refine hK.out _ _ rfl (fun zq => ?_)
  clear hK K
  try simp only [Act.put, pz, py, px]
  refine tkH (i := 36) (oi := o138x37) (v := ?vp4_36) rfl ?hp4_36 zq ?rp4_36
  case hp4_36 =>
   intro wS hSw
   subst hSw
   (try dsimp only at hSw)
   go_simp
   try with_reducible rfl
  refine tkH (i := 37) (oi := o138x38) (v := ?vp4_37) rfl ?hp4_37 zq ?rp4_37
  case hp4_37 =>
   intro wS hSw
   subst hSw
   (try dsimp only at hSw)
   go_simp
   try with_reducible rfl
  refine tkH (i := 38) (oi := o138x39) (v := ?vp4_38) rfl ?hp4_38 zq ?rp4_38
  case hp4_38 =>
   intro wS hSw
   subst hSw
   (try dsimp only at hSw)
   go_simp
   try with_reducible rfl
  refine tkH (i := 39) (oi := o138x40) (v := ?vp4_39) rfl ?hp4_39 zq ?rp4_39
  case hp4_39 =>
   intro wS hSw
   subst hSw
   (try dsimp only at hSw)
   go_simp
   try with_reducible rfl
  refine tkH (i := 40) (oi := o138x41) (v := ?vp4_40) rfl ?hp4_40 zq ?rp4_40
  case hp4_40 =>
   intro wS hSw
   subst hSw
   (try dsimp only at hSw)
   go_simp
   try with_reducible rfl
  refine tkH (i := 41) (oi := o138x42) (v := ?vp4_41) rfl ?hp4_41 zq ?rp4_41
  case hp4_41 =>
   intro wS hSw
   subst hSw
   (try dsimp only at hSw)
   go_simp
   try with_reducible rfl
  refine tkH (i := 42) (oi := o138x43) (v := ?vp4_42) rfl ?hp4_42 zq ?rp4_42
  case hp4_42 =>
   intro wS hSw
   subst hSw
   (try dsimp only at hSw)
   go_simp
   try with_reducible rfl
  refine rdH (i := 43) (oi := o138x44) rfl (fun K hK => ?_)
  go_simp
  go_at_call 64
  refine (uh L4 wD).mono ?_
  rintro e u1 ⟨rfl, h1⟩
  subst u1
  try go_wp2_with fail
  refine hK.out _ _ rfl (fun zq => ?_)
  clear hK K
  try simp only [Act.put, pz, py, px]
  refine tkH (i := 44) (oi := o138x45) (v := ?vp4_44) rfl ?hp4_44 zq ?rp4_44
  case hp4_44 =>
   intro wS hSw
   subst hSw
   (try dsimp only at hSw)
   go_simp
   try with_reducible rfl
  refine tkH (i := 45) (oi := o138x46) (v := ?vp4_45) rfl ?hp4_45 zq ?rp4_45
  case hp4_45 =>
   intro wS hSw
   subst hSw
   (try dsimp only at hSw)
   go_simp
   try with_reducible rfl
  refine wpAnyH_done (by kernel_rfl) ?_ _
  refine NoPanic.normal ?_
  clear zq
  go_wp2_with fail
  go_ret
  exact ⟨by rw [uh HP]; simp, uh HBD⟩
 go_wp2_with fail
 refine wp_region_noPanic ?_
 refine wp_region_held_drew (S := fun w' => w' = w.drew) (by kernel_rfl) rfl (fun zq => ?_)
 generalize w.drew = wD at zq y1 z0 z6 z7 z8 HBD ⊢
 refine tkH (i := 0) (oi := o138x1) (v := ?vp5_0) rfl ?hp5_0 zq ?rp5_0
 case hp5_0 =>
  intro wS hSw
  subst hSw
  (try dsimp only at hSw)
  go_simp
  try with_reducible rfl
 refine tkH (i := 1) (oi := o138x2) (v := ?vp5_1) rfl ?hp5_1 zq ?rp5_1
 case hp5_1 =>
  intro wS hSw
  subst hSw
  (try dsimp only at hSw)
  go_simp
  try with_reducible rfl
 refine tkH (i := 2) (oi := o138x3) (v := ?vp5_2) rfl ?hp5_2 zq ?rp5_2
 case hp5_2 =>
  intro wS hSw
  subst hSw
  (try dsimp only at hSw)
  go_simp
  try with_reducible rfl
 refine tkH (i := 3) (oi := o138x4) (v := ?vp5_3) rfl ?hp5_3 zq ?rp5_3
 case hp5_3 =>
  intro wS hSw
  subst hSw
  (try dsimp only at hSw)
  go_simp
  try with_reducible rfl
 refine rdH (i := 4) (oi := o138x5) rfl (fun K hK => ?_)
 go_simp
 go_at_call 64
 refine (uh L1 wD).mono ?_
 rintro e u1 ⟨rfl, h1⟩
 subst u1
 try go_wp2_with fail
 refine hK.out _ _ rfl (fun zq => ?_)
 clear hK K
 try simp only [Act.put, pz, py, px]
 refine tkH (i := 5) (oi := o138x6) (v := ?vp5_5) rfl ?hp5_5 zq ?rp5_5
 case hp5_5 =>
  intro wS hSw
  subst hSw
  (try dsimp only at hSw)
  go_simp
  try with_reducible rfl
 refine tkH (i := 6) (oi := o138x7) (v := ?vp5_6) rfl ?hp5_6 zq ?rp5_6
 case hp5_6 =>
  intro wS hSw
  subst hSw
  (try dsimp only at hSw)
  go_simp
  try with_reducible rfl
 refine tkH (i := 7) (oi := o138x8) (v := ?vp5_7) rfl ?hp5_7 zq ?rp5_7
 case hp5_7 =>
  intro wS hSw
  subst hSw
  (try dsimp only at hSw)
  go_simp
  try with_reducible rfl
 refine tkH (i := 8) (oi := o138x9) (v := ?vp5_8) rfl ?hp5_8 zq ?rp5_8
 case hp5_8 =>
  intro wS hSw
  subst hSw
  (try dsimp only at hSw)
  go_simp
  try with_reducible rfl
 refine tkH (i := 9) (oi := o138x10) (v := ?vp5_9) rfl ?hp5_9 zq ?rp5_9
 case hp5_9 =>
  intro wS hSw
  subst hSw
  (try dsimp only at hSw)
  go_simp
  try with_reducible rfl
 refine tkH (i := 10) (oi := o138x11) (v := ?vp5_10) rfl ?hp5_10 zq ?rp5_10
 case hp5_10 =>
  intro wS hSw
  subst hSw
  (try dsimp only at hSw)
  go_simp
  try with_reducible rfl
 refine tkH (i := 11) (oi := o138x12) (v := ?vp5_11) rfl ?hp5_11 zq ?rp5_11
 case hp5_11 =>
  intro wS hSw
  subst hSw
  (try dsimp only at hSw)
  go_simp
  try with_reducible rfl
 refine tkH (i := 12) (oi := o138x13) (v := ?vp5_12) rfl ?hp5_12 zq ?rp5_12
 case hp5_12 =>
  intro wS hSw
  subst hSw
  (try dsimp only at hSw)
  go_simp
  try with_reducible rfl
 refine tkH (i := 13) (oi := o138x14) (v := ?vp5_13) rfl ?hp5_13 zq ?rp5_13
 case hp5_13 =>
  intro wS hSw
  subst hSw
  (try dsimp only at hSw)
  go_simp
  try with_reducible rfl
 refine rdH (i := 14) (oi := o138x15) rfl (fun K hK => ?_)
 go_simp
 go_at_call 64
 refine (uh L2 wD).mono ?_
 rintro e u1 ⟨rfl, h1⟩
 subst u1
 try go_wp2_with fail
 refine hK.out _ _ rfl (fun zq => ?_)
 clear hK K
 try simp only [Act.put, pz, py, px]
 refine tkH (i := 15) (oi := o138x16) (v := ?vp5_15) rfl ?hp5_15 zq ?rp5_15
 case hp5_15 =>
  intro wS hSw
  subst hSw
  (try dsimp only at hSw)
  go_simp
  try with_reducible rfl
 refine tkH (i := 16) (oi := o138x17) (v := ?vp5_16) rfl ?hp5_16 zq ?rp5_16
 case hp5_16 =>
  intro wS hSw
  subst hSw
  (try dsimp only at hSw)
  go_simp
  try with_reducible rfl
 refine tkH (i := 17) (oi := o138x18) (v := ?vp5_17) rfl ?hp5_17 zq ?rp5_17
 case hp5_17 =>
  intro wS hSw
  subst hSw
  (try dsimp only at hSw)
  go_simp
  try with_reducible rfl
 refine tkH (i := 18) (oi := o138x19) (v := ?vp5_18) rfl ?hp5_18 zq ?rp5_18
 case hp5_18 =>
  intro wS hSw
  subst hSw
  (try dsimp only at hSw)
  go_simp
  try with_reducible rfl
 refine tkH (i := 19) (oi := o138x20) (v := ?vp5_19) rfl ?hp5_19 zq ?rp5_19
 case hp5_19 =>
  intro wS hSw
  subst hSw
  (try dsimp only at hSw)
  go_simp
  try with_reducible rfl
 refine tkH (i := 20) (oi := o138x21) (v := ?vp5_20) rfl ?hp5_20 zq ?rp5_20
 case hp5_20 =>
  intro wS hSw
  subst hSw
  (try dsimp only at hSw)
  go_simp
  try with_reducible rfl
 refine tkH (i := 21) (oi := o138x22) (v := ?vp5_21) rfl ?hp5_21 zq ?rp5_21
 case hp5_21 =>
  intro wS hSw
  subst hSw
  (try dsimp only at hSw)
  go_simp
  try with_reducible rfl
 refine tkH (i := 22) (oi := o138x23) (v := ?vp5_22) rfl ?hp5_22 zq ?rp5_22
 case hp5_22 =>
  intro wS hSw
  subst hSw
  (try dsimp only at hSw)
  go_simp
  try with_reducible rfl
 refine skH (i := 23) (oi := o138x24) rfl zq ?_
 refine skH (i := 24) (oi := o138x25) rfl zq ?_
 refine skH (i := 25) (oi := o138x26) rfl zq ?_
 refine skH (i := 26) (oi := o138x27) rfl zq ?_
 refine skH (i := 27) (oi := o138x28) rfl zq ?_
 refine skH (i := 28) (oi := o138x29) rfl zq ?_
 refine skH (i := 29) (oi := o138x30) rfl zq ?_
 refine skH (i := 30) (oi := o138x31) rfl zq ?_
 refine skH (i := 31) (oi := o138x32) rfl zq ?_
 refine skH (i := 32) (oi := o138x33) rfl zq ?_
 refine skH (i := 33) (oi := o138x34) rfl zq ?_
 refine skH (i := 34) (oi := o138x35) rfl zq ?_
 refine skH (i := 35) (oi := o138x36) rfl zq ?_
 refine tkH (i := 36) (oi := o138x37) (v := ?vp5_36) rfl ?hp5_36 zq ?rp5_36
 case hp5_36 =>
  intro wS hSw
  subst hSw
  (try dsimp only at hSw)
  go_simp
  try with_reducible rfl
 refine tkH (i := 37) (oi := o138x38) (v := ?vp5_37) rfl ?hp5_37 zq ?rp5_37
 case hp5_37 =>
  intro wS hSw
  subst hSw
  (try dsimp only at hSw)
  go_simp
  try with_reducible rfl
 refine tkH (i := 38) (oi := o138x39) (v := ?vp5_38) rfl ?hp5_38 zq ?rp5_38
 case hp5_38 =>
  intro wS hSw
  subst hSw
  (try dsimp only at hSw)
  go_simp
  try with_reducible rfl
 refine tkH (i := 39) (oi := o138x40) (v := ?vp5_39) rfl ?hp5_39 zq ?rp5_39
 case hp5_39 =>
  intro wS hSw
  subst hSw
  (try dsimp only at hSw)
  go_simp
  try with_reducible rfl
 refine tkH (i := 40) (oi := o138x41) (v := ?vp5_40) rfl ?hp5_40 zq ?rp5_40
 case hp5_40 =>
  intro wS hSw
  subst hSw
  (try dsimp only at hSw)
  go_simp
  try with_reducible rfl
 refine tkH (i := 41) (oi := o138x42) (v := ?vp5_41) rfl ?hp5_41 zq ?rp5_41
 case hp5_41 =>
  intro wS hSw
  subst hSw
  (try dsimp only at hSw)
  go_simp
  try with_reducible rfl
 refine tkH (i := 42) (oi := o138x43) (v := ?vp5_42) rfl ?hp5_42 zq ?rp5_42
 case hp5_42 =>
  intro wS hSw
  subst hSw
  (try dsimp only at hSw)
  go_simp
  try with_reducible rfl
 refine rdH (i := 43) (oi := o138x44) rfl (fun K hK => ?_)
 go_simp
 go_at_call 64
 refine (uh L4 wD).mono ?_
 rintro e u1 ⟨rfl, h1⟩
 subst u1
 try go_wp2_with fail
 refine hK.out _ _ rfl (fun zq => ?_)
 clear hK K
 try simp only [Act.put, pz, py, px]
 refine tkH (i := 44) (oi := o138x45) (v := ?vp5_44) rfl ?hp5_44 zq ?rp5_44
 case hp5_44 =>
  intro wS hSw
  subst hSw
  (try dsimp only at hSw)
  go_simp
  try with_reducible rfl
 refine tkH (i := 45) (oi := o138x46) (v := ?vp5_45) rfl ?hp5_45 zq ?rp5_45
 case hp5_45 =>
  intro wS hSw
  subst hSw
  (try dsimp only at hSw)
  go_simp
  try with_reducible rfl
 refine wpAnyH_done (by kernel_rfl) ?_ _
 refine NoPanic.normal ?_
 clear zq
 go_wp2_with fail
 go_ret
 exact ⟨by rw [uh HP]; simp, uh HBD⟩
theorem specWrites_pos (b off cap : Nat) (ws : List DWrite) (w : World) (h : (Lay.sl Lay.tWrite).Reads w [.slice (some ⟨b, off, none⟩) ws.length cap] ws) (hbl : b < w.heap.size) (hn : ws.length ≤ 200) :
  Calls Tryz.prog 285 #[.slice (some ⟨b, off, none⟩) ws.length cap] w fun e w' => e = .returned (.int .i64 (writesF ws)) ∧ w' = w := by
 have HW : Hid (writesF ws = wsFrom ws) := by show writesF ws = wsFrom ws; rw [writesF, if_neg (by omega)]
 have H := yh h
 clear h
 go_enter Tryz.func285, Tryz.ntmps285
 go_wp2_with fail
 go_loop [3] (fun i => ∃ k : Nat, k ≤ ws.length ∧ i = .int .i64 k ∧ (∀ j (hj : j < ws.length), j < k → wF ws[j] = 0)) (fun i => ws.length - (intOf i).toNat)
 case atStart => exact ⟨0, Nat.zero_le _, rfl, fun j _ hj => by omega⟩
 case round =>
  obtain ⟨k, hk, rfl, hz⟩ := hrel
  by_cases hlt : k < ws.length
  ·
   obtain ⟨row, hc, hr⟩ := Lay.row_at (uh H) hlt
   obtain ⟨a2, d2, rfl, R2⟩ := open_Write hr
   have c0 : w.cell? ⟨b, off + k * 5, none⟩ = some (.int .i64 (ws[k]).kind) := ((Below.refl w.heap.size w).cell (p := ⟨b, off + k * 5, none⟩) hbl).trans (hc 0 (by decide))
   have c1 : w.cell? ⟨b, off + k * 5 + 1, none⟩ = some (.int .i64 (ws[k]).id) := ((Below.refl w.heap.size w).cell (p := ⟨b, off + k * 5 + 1, none⟩) hbl).trans (hc 1 (by decide))
   have c2 : w.cell? ⟨b, off + k * 5 + 2, none⟩ = some (.slice a2 (ws[k]).vec.length d2) := ((Below.refl w.heap.size w).cell (p := ⟨b, off + k * 5 + 2, none⟩) hbl).trans (hc 2 (by decide))
   have c3 : w.cell? ⟨b, off + k * 5 + 3, none⟩ = some (.int .i64 (ws[k]).session) := ((Below.refl w.heap.size w).cell (p := ⟨b, off + k * 5 + 3, none⟩) hbl).trans (hc 3 (by decide))
   have c4 : w.cell? ⟨b, off + k * 5 + 4, none⟩ = some (.int .i64 (ws[k]).seq) := ((Below.refl w.heap.size w).cell (p := ⟨b, off + k * 5 + 4, none⟩) hbl).trans (hc 4 (by decide))
   have HZ := yh hz
   have HAT : Hid (wF ws[k] ≠ 0 → writesF ws = wF ws[k]) := fun hn => (uh HW).trans (wsFrom_at ws k hlt hz hn)
   have HZ2 : Hid (wF ws[k] = 0 → ∀ j (hj : j < ws.length), j < k + 1 → wF ws[j] = 0) := by
    intro h0 j hj hjk
    by_cases hjk2 : j < k
    ·
     exact uh HZ j hj hjk2
    obtain rfl : j = k := by omega
    exact h0
   clear hc hr hz HZ
   generalize hx : ws[k] = x at *
   clear hx
   have L := l3FaultO b (off + k * 5) x.kind x.id _ x.session x.seq x.vec w ⟨c0, c1, c2, c3, c4⟩ (Lay.ints_reads R2)
   rw [show writeFault x.kind x.id x.vec x.session x.seq = wF x from rfl] at L
   have HL := yh L
   clear L R2 c0 c1 c2 c3 c4
   go_wp2_with fail
   refine (uh HL).mono ?_
   rintro e w ⟨rfl, rfl⟩
   by_cases hf : wF x = 0
   ·
    rw [hf]
    have HZ3 := yh (uh HZ2 hf)
    clear hf HZ2 HAT HL
    go_wp2_with fail
    go_round
    case rel => exact ⟨k + 1, by omega, by go_num, uh HZ3⟩
    case measure => simp [intOf]; omega
   have hd : (wF x != 0) = true := by simpa using hf
   have HG := yh (uh HAT hf)
   clear hf HZ2 HAT HL
   go_wp2_with fail
   go_ret
   exact ⟨by rw [uh HG]; rfl, rfl⟩
  have HG : Hid (writesF ws = 0) := (uh HW).trans (wsFrom_all ws fun j hj => hz j hj (by omega))
  clear hz H
  go_wp2_with fail
  go_ret
  exact ⟨by rw [uh HG]; rfl, rfl⟩
theorem specWrites (v : Value) (ws : List DWrite) (w : World) (h : (Lay.sl Lay.tWrite).Reads w [v] ws) :
  Calls Tryz.prog 285 #[v] w fun e w' => e = .returned (.int .i64 (writesF ws)) ∧ w' = w := by
 obtain ⟨ao, cap, rfl⟩ := open_sl h
 by_cases hn : ws.length ≤ 200
 ·
  by_cases hp : 0 < ws.length
  ·
   obtain ⟨b, off, rfl, hbl⟩ := Lay.sl_addr h hp
   exact specWrites_pos b off cap ws w h hbl hn
  obtain rfl : ws = [] := List.eq_nil_of_length_eq_zero (by omega)
  clear h hn hp
  go_enter Tryz.func285, Tryz.ntmps285
  go_wp2_with fail
  refine wp_loop_rounds 1 ?_
  rw [rounds_succ]
  go_wp2_with fail
  go_ret
  exact ⟨rfl, rfl⟩
 have e : writesF ws = 2 := by rw [writesF, if_pos (by omega)]
 rw [e]
 have hd : decide ((200 : Int) < (ws.length : Int)) = true := by simp; omega
 clear h e
 go_enter Tryz.func285, Tryz.ntmps285
 go_wp2_with fail
 go_ret
 exact ⟨rfl, rfl⟩
end Go.Proofs.YtoanimpijfijgaaGreat
