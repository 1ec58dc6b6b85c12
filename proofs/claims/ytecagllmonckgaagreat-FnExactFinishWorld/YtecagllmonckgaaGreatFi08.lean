/-
  Texts of this proof in one: SpecWE, SpecNodeO, SpecChainF, SpecChainO, SpecWN, SpecNetF, SpecWF, ImplNodeId, ImplEpoch, PartReads, ImplChainF, ImplUpTo, TickMap, ToldPlain.
  Their conditions stand in their theorems.
-/
import Derived.Test.YtecagllmonckgaaGreatChecked
import Derived.Test.YtecagllmonckgaaGreatFi06
import Derived.Test.YtecagllmonckgaaGreatFi07
import Derived.Test.YtecagllmonckgaaGreatFi05
import Derived.Deep.RegionHeld3
import Derived.Test.YtecagllmonckgaaGreatFi00
import Derived.Test.YtecagllmonckgaaGreatFi01
import Derived.Deep.CutRange
import Derived.Maps.OwnSet
import Derived.DeepKeys4
set_option maxRecDepth 100000
set_option maxHeartbeats 4000000
namespace Go.Proofs.YtecagllmonckgaaGreat
open Go.RowKit
theorem pU (a3 : Option Addr) (d3 : Nat) (a4 : Option Addr) (d4 : Nat) (a5 : Option Addr) (d5 : Nat) (a6 : Option Addr) (d6 : Nat) (x : ay) (id : Int) (xb : Nat) (w : World) (hX : aj 0 #[.int .i64 x.now, .int .i64 x.events, .int .i64 x.chain.af, .slice a3 x.chain.ids.length d3, .slice a4 x.nodes.length d4, .slice a5 x.msgs.length d5, .slice a6 x.ae.length d6] 37 w xb) :
  Calls Tryz.prog 167 #[.pointer (some ⟨xb, 0, none⟩), .int .i64 id] w fun e w' => e = .returned (.bool (cj x id)) ∧ w' = w := by
 have HL := yh (eE id 1 (x.nodes.length : Int) w)
 have z3 := aj.at hX 4 _ rfl
 simp only [ga, gb, gc] at z3
 have xl := hX.lt
 clear hX
 go_enter Tryz.func167, Tryz.ntmps167
 go_wp2_with fail
 refine (uh HL).mono ?_
 rintro e w1 ⟨rfl, h1⟩
 subst w1
 clear HL
 go_wp2_with fail
 go_ret
 exact ⟨rfl, rfl⟩
theorem oj (a3 : Option Addr) (d3 : Nat) (a4 : Option Addr) (d4 : Nat) (a5 : Option Addr) (d5 : Nat) (a6 : Option Addr) (d6 : Nat) (aq : Option Addr) (dq : Nat) (av : Option Addr) (dv : Nat) (ah : Option Addr) (dh : Nat) (x : ay) (e : aZ) (xb b o : Nat) (w : World) (hX : aj 0 #[.int .i64 x.now, .int .i64 x.events, .int .i64 x.chain.af, .slice a3 x.chain.ids.length d3, .slice a4 x.nodes.length d4, .slice a5 x.msgs.length d5, .slice a6 x.ae.length d6] 37 w xb) (hE : dU #[.int .i64 e.kind, .int .i64 e.aa, .int .i64 e.seq, .int .i64 e.id, .slice aq e.query.length dq, .int .i64 e.k, .int .i64 e.start, .int .i64 e.fin, .int .i64 e.place, .slice av e.vec.length dv, .slice ah e.aN.length dh] w b o) :
  Calls Tryz.prog 150 #[.pointer (some ⟨xb, 0, none⟩), .pointer (some ⟨b, o, none⟩)] w fun r w' => r = .returned (.bool (fk x e)) ∧ Below w.heap.size w w' := by
 have L1 : Hid (∀ W, Calls Tryz.prog 102 #[.int .i64 e.kind, .int .i64 1, .int .i64 3] W fun r w' => r = .returned (.bool (decide (1 ≤ e.kind) && decide (e.kind ≤ 3))) ∧ w' = W) := fun W => eE _ _ _ W
 have L2 : Hid (∀ W, Calls Tryz.prog 102 #[.int .i64 e.start, .int .i64 1, .int .i64 x.events] W fun r w' => r = .returned (.bool (decide (1 ≤ e.start) && decide (e.start ≤ x.events))) ∧ w' = W) := fun W => eE _ _ _ W
 have L3 : Hid (∀ W, Calls Tryz.prog 102 #[.int .i64 e.fin, .int .i64 e.start, .int .i64 x.events] W fun r w' => r = .returned (.bool (decide (e.start ≤ e.fin) && decide (e.fin ≤ x.events))) ∧ w' = W) := fun W => eE _ _ _ W
 have L4 : Hid (∀ W, Calls Tryz.prog 102 #[.int .i64 e.place, .int .i64 0, .int .i64 40] W fun r w' => r = .returned (.bool (decide (0 ≤ e.place) && decide (e.place ≤ 40))) ∧ w' = W) := fun W => eE _ _ _ W
 have HP : Hid (fk x e = ((decide (1 ≤ e.kind) && decide (e.kind ≤ 3)) && ((decide (1 ≤ e.start) && decide (e.start ≤ x.events)) && ((e.fin == 0 || (decide (e.start ≤ e.fin) && decide (e.fin ≤ x.events))) && (decide (0 ≤ e.place) && decide (e.place ≤ 40)))))) := rfl
 generalize fk x e = r at *
 have HBD : Hid (Below w.heap.size w w.drew) := (Below.refl _ _).drew
 have y1 := aj.at hX.drew 1 _ rfl
 have z0 := hE.drew.at 0 _ rfl
 have z6 := hE.drew.at 6 _ rfl
 have z7 := hE.drew.at 7 _ rfl
 have z8 := hE.drew.at 8 _ rfl
 simp only [List.getElem_toArray, List.getElem_cons_zero, List.getElem_cons_succ, Nat.add_zero] at y1 z0 z6 z7 z8
 clear hX hE
 generalize (decide (1 ≤ e.kind) && decide (e.kind ≤ 3)) = A at *
 generalize (decide (1 ≤ e.start) && decide (e.start ≤ x.events)) = B at *
 generalize (decide (e.start ≤ e.fin) && decide (e.fin ≤ x.events)) = C at *
 generalize (decide (0 ≤ e.place) && decide (e.place ≤ 40)) = D at *
 generalize hz : (e.fin == 0) = Z at *
 go_enter Tryz.func150, Tryz.ntmps150
 cases A
 ·
  go_wp2_with fail
  refine wZz (fun w' => w' = w.drew) rfl (fun zq => ?_)
  generalize w.drew = wD at zq y1 z0 z6 z7 z8 HBD ⊢
  refine tkJ 0 (v := ?vp1_0) ?hp1_0 zq ?rp1_0
  case hp1_0 =>
   intro wS hSw
   subst hSw
   exact fZ
  refine tkJ 1 (v := ?vp1_1) ?hp1_1 zq ?rp1_1
  case hp1_1 =>
   intro wS hSw
   subst hSw
   exact fZ
  refine tkJ 2 (v := ?vp1_2) ?hp1_2 zq ?rp1_2
  case hp1_2 =>
   intro wS hSw
   subst hSw
   exact fZ
  refine tkJ 3 (v := ?vp1_3) ?hp1_3 zq ?rp1_3
  case hp1_3 =>
   intro wS hSw
   subst hSw
   exact fZ
  refine rdH 4 (fun K hK => ?_)
  go_simp
  go_at_call 102
  refine (uh L1 wD).mono ?_
  rintro e u1 ⟨rfl, h1⟩
  subst u1
  try go_wp2_with fail
  refine hK.out _ _ rfl (fun zq => ?_)
  clear hK K
  try simp only [Act.put, pz, py, px]
  refine tkJ 5 (v := ?vp1_5) ?hp1_5 zq ?rp1_5
  case hp1_5 =>
   intro wS hSw
   subst hSw
   exact fZ
  refine skH 6 zq ?_
  refine skH 7 zq ?_
  refine skH 8 zq ?_
  refine skH 9 zq ?_
  refine skH 10 zq ?_
  refine skH 11 zq ?_
  refine skH 12 zq ?_
  refine skH 13 zq ?_
  refine skH 14 zq ?_
  refine tkJ 15 (v := ?vp1_15) ?hp1_15 zq ?rp1_15
  case hp1_15 =>
   intro wS hSw
   subst hSw
   exact fZ
  refine tkJ 16 (v := ?vp1_16) ?hp1_16 zq ?rp1_16
  case hp1_16 =>
   intro wS hSw
   subst hSw
   exact fZ
  refine skH 17 zq ?_
  refine skH 18 zq ?_
  refine skH 19 zq ?_
  refine skH 20 zq ?_
  refine skH 21 zq ?_
  refine skH 22 zq ?_
  refine skH 23 zq ?_
  refine skH 24 zq ?_
  refine skH 25 zq ?_
  refine skH 26 zq ?_
  refine skH 27 zq ?_
  refine skH 28 zq ?_
  refine skH 29 zq ?_
  refine skH 30 zq ?_
  refine skH 31 zq ?_
  refine skH 32 zq ?_
  refine skH 33 zq ?_
  refine skH 34 zq ?_
  refine skH 35 zq ?_
  refine skH 36 zq ?_
  refine tkJ 37 (v := ?vp1_37) ?hp1_37 zq ?rp1_37
  case hp1_37 =>
   intro wS hSw
   subst hSw
   exact fZ
  refine tkJ 38 (v := ?vp1_38) ?hp1_38 zq ?rp1_38
  case hp1_38 =>
   intro wS hSw
   subst hSw
   exact fZ
  refine skH 39 zq ?_
  refine skH 40 zq ?_
  refine skH 41 zq ?_
  refine skH 42 zq ?_
  refine skH 43 zq ?_
  refine tkJ 44 (v := ?vp1_44) ?hp1_44 zq ?rp1_44
  case hp1_44 =>
   intro wS hSw
   subst hSw
   exact fZ
  refine tkJ 45 (v := ?vp1_45) ?hp1_45 zq ?rp1_45
  case hp1_45 =>
   intro wS hSw
   subst hSw
   exact fZ
  refine dZ ?_
  clear zq
  go_wp2_with fail
  go_ret
  exact ⟨by rw [uh HP]; simp, uh HBD⟩
 cases B
 ·
  go_wp2_with fail
  refine wZz (fun w' => w' = w.drew) rfl (fun zq => ?_)
  generalize w.drew = wD at zq y1 z0 z6 z7 z8 HBD ⊢
  refine tkJ 0 (v := ?vp2_0) ?hp2_0 zq ?rp2_0
  case hp2_0 =>
   intro wS hSw
   subst hSw
   exact fZ
  refine tkJ 1 (v := ?vp2_1) ?hp2_1 zq ?rp2_1
  case hp2_1 =>
   intro wS hSw
   subst hSw
   exact fZ
  refine tkJ 2 (v := ?vp2_2) ?hp2_2 zq ?rp2_2
  case hp2_2 =>
   intro wS hSw
   subst hSw
   exact fZ
  refine tkJ 3 (v := ?vp2_3) ?hp2_3 zq ?rp2_3
  case hp2_3 =>
   intro wS hSw
   subst hSw
   exact fZ
  refine rdH 4 (fun K hK => ?_)
  go_simp
  go_at_call 102
  refine (uh L1 wD).mono ?_
  rintro e u1 ⟨rfl, h1⟩
  subst u1
  try go_wp2_with fail
  refine hK.out _ _ rfl (fun zq => ?_)
  clear hK K
  try simp only [Act.put, pz, py, px]
  refine tkJ 5 (v := ?vp2_5) ?hp2_5 zq ?rp2_5
  case hp2_5 =>
   intro wS hSw
   subst hSw
   exact fZ
  refine tkJ 6 (v := ?vp2_6) ?hp2_6 zq ?rp2_6
  case hp2_6 =>
   intro wS hSw
   subst hSw
   exact fZ
  refine tkJ 7 (v := ?vp2_7) ?hp2_7 zq ?rp2_7
  case hp2_7 =>
   intro wS hSw
   subst hSw
   exact fZ
  refine tkJ 8 (v := ?vp2_8) ?hp2_8 zq ?rp2_8
  case hp2_8 =>
   intro wS hSw
   subst hSw
   exact fZ
  refine tkJ 9 (v := ?vp2_9) ?hp2_9 zq ?rp2_9
  case hp2_9 =>
   intro wS hSw
   subst hSw
   exact fZ
  refine tkJ 10 (v := ?vp2_10) ?hp2_10 zq ?rp2_10
  case hp2_10 =>
   intro wS hSw
   subst hSw
   exact fZ
  refine tkJ 11 (v := ?vp2_11) ?hp2_11 zq ?rp2_11
  case hp2_11 =>
   intro wS hSw
   subst hSw
   exact fZ
  refine tkJ 12 (v := ?vp2_12) ?hp2_12 zq ?rp2_12
  case hp2_12 =>
   intro wS hSw
   subst hSw
   exact fZ
  refine tkJ 13 (v := ?vp2_13) ?hp2_13 zq ?rp2_13
  case hp2_13 =>
   intro wS hSw
   subst hSw
   exact fZ
  refine rdH 14 (fun K hK => ?_)
  go_simp
  go_at_call 102
  refine (uh L2 wD).mono ?_
  rintro e u1 ⟨rfl, h1⟩
  subst u1
  try go_wp2_with fail
  refine hK.out _ _ rfl (fun zq => ?_)
  clear hK K
  try simp only [Act.put, pz, py, px]
  refine tkJ 15 (v := ?vp2_15) ?hp2_15 zq ?rp2_15
  case hp2_15 =>
   intro wS hSw
   subst hSw
   exact fZ
  refine tkJ 16 (v := ?vp2_16) ?hp2_16 zq ?rp2_16
  case hp2_16 =>
   intro wS hSw
   subst hSw
   exact fZ
  refine skH 17 zq ?_
  refine skH 18 zq ?_
  refine skH 19 zq ?_
  refine skH 20 zq ?_
  refine skH 21 zq ?_
  refine skH 22 zq ?_
  refine skH 23 zq ?_
  refine skH 24 zq ?_
  refine skH 25 zq ?_
  refine skH 26 zq ?_
  refine skH 27 zq ?_
  refine skH 28 zq ?_
  refine skH 29 zq ?_
  refine skH 30 zq ?_
  refine skH 31 zq ?_
  refine skH 32 zq ?_
  refine skH 33 zq ?_
  refine skH 34 zq ?_
  refine skH 35 zq ?_
  refine skH 36 zq ?_
  refine tkJ 37 (v := ?vp2_37) ?hp2_37 zq ?rp2_37
  case hp2_37 =>
   intro wS hSw
   subst hSw
   exact fZ
  refine tkJ 38 (v := ?vp2_38) ?hp2_38 zq ?rp2_38
  case hp2_38 =>
   intro wS hSw
   subst hSw
   exact fZ
  refine skH 39 zq ?_
  refine skH 40 zq ?_
  refine skH 41 zq ?_
  refine skH 42 zq ?_
  refine skH 43 zq ?_
  refine tkJ 44 (v := ?vp2_44) ?hp2_44 zq ?rp2_44
  case hp2_44 =>
   intro wS hSw
   subst hSw
   exact fZ
  refine tkJ 45 (v := ?vp2_45) ?hp2_45 zq ?rp2_45
  case hp2_45 =>
   intro wS hSw
   subst hSw
   exact fZ
  refine dZ ?_
  clear zq
  go_wp2_with fail
  go_ret
  exact ⟨by rw [uh HP]; simp, uh HBD⟩
 cases Z
 ·
  cases C
  ·
   go_wp2_with fail
   refine wZz (fun w' => w' = w.drew) rfl (fun zq => ?_)
   generalize w.drew = wD at zq y1 z0 z6 z7 z8 HBD ⊢
   refine tkJ 0 (v := ?vp3_0) ?hp3_0 zq ?rp3_0
   case hp3_0 =>
    intro wS hSw
    subst hSw
    exact fZ
   refine tkJ 1 (v := ?vp3_1) ?hp3_1 zq ?rp3_1
   case hp3_1 =>
    intro wS hSw
    subst hSw
    exact fZ
   refine tkJ 2 (v := ?vp3_2) ?hp3_2 zq ?rp3_2
   case hp3_2 =>
    intro wS hSw
    subst hSw
    exact fZ
   refine tkJ 3 (v := ?vp3_3) ?hp3_3 zq ?rp3_3
   case hp3_3 =>
    intro wS hSw
    subst hSw
    exact fZ
   refine rdH 4 (fun K hK => ?_)
   go_simp
   go_at_call 102
   refine (uh L1 wD).mono ?_
   rintro e u1 ⟨rfl, h1⟩
   subst u1
   try go_wp2_with fail
   refine hK.out _ _ rfl (fun zq => ?_)
   clear hK K
   try simp only [Act.put, pz, py, px]
   refine tkJ 5 (v := ?vp3_5) ?hp3_5 zq ?rp3_5
   case hp3_5 =>
    intro wS hSw
    subst hSw
    exact fZ
   refine tkJ 6 (v := ?vp3_6) ?hp3_6 zq ?rp3_6
   case hp3_6 =>
    intro wS hSw
    subst hSw
    exact fZ
   refine tkJ 7 (v := ?vp3_7) ?hp3_7 zq ?rp3_7
   case hp3_7 =>
    intro wS hSw
    subst hSw
    exact fZ
   refine tkJ 8 (v := ?vp3_8) ?hp3_8 zq ?rp3_8
   case hp3_8 =>
    intro wS hSw
    subst hSw
    exact fZ
   refine tkJ 9 (v := ?vp3_9) ?hp3_9 zq ?rp3_9
   case hp3_9 =>
    intro wS hSw
    subst hSw
    exact fZ
   refine tkJ 10 (v := ?vp3_10) ?hp3_10 zq ?rp3_10
   case hp3_10 =>
    intro wS hSw
    subst hSw
    exact fZ
   refine tkJ 11 (v := ?vp3_11) ?hp3_11 zq ?rp3_11
   case hp3_11 =>
    intro wS hSw
    subst hSw
    exact fZ
   refine tkJ 12 (v := ?vp3_12) ?hp3_12 zq ?rp3_12
   case hp3_12 =>
    intro wS hSw
    subst hSw
    exact fZ
   refine tkJ 13 (v := ?vp3_13) ?hp3_13 zq ?rp3_13
   case hp3_13 =>
    intro wS hSw
    subst hSw
    exact fZ
   refine rdH 14 (fun K hK => ?_)
   go_simp
   go_at_call 102
   refine (uh L2 wD).mono ?_
   rintro e u1 ⟨rfl, h1⟩
   subst u1
   try go_wp2_with fail
   refine hK.out _ _ rfl (fun zq => ?_)
   clear hK K
   try simp only [Act.put, pz, py, px]
   refine tkJ 15 (v := ?vp3_15) ?hp3_15 zq ?rp3_15
   case hp3_15 =>
    intro wS hSw
    subst hSw
    exact fZ
   refine tkJ 16 (v := ?vp3_16) ?hp3_16 zq ?rp3_16
   case hp3_16 =>
    intro wS hSw
    subst hSw
    exact fZ
   refine tkJ 17 (v := ?vp3_17) ?hp3_17 zq ?rp3_17
   case hp3_17 =>
    intro wS hSw
    subst hSw
    exact fZ
   refine tkJ 18 (v := ?vp3_18) ?hp3_18 zq ?rp3_18
   case hp3_18 =>
    intro wS hSw
    subst hSw
    exact fZ
   refine tkJ 19 (v := ?vp3_19) ?hp3_19 zq ?rp3_19
   case hp3_19 =>
    intro wS hSw
    subst hSw
    exact fZ
   refine tkJ 20 (v := ?vp3_20) ?hp3_20 zq ?rp3_20
   case hp3_20 =>
    intro wS hSw
    subst hSw
    exact fZ
   refine tkJ 21 (v := ?vp3_21) ?hp3_21 zq ?rp3_21
   case hp3_21 =>
    intro wS hSw
    subst hSw
    exact fZ
   refine tkJ 22 (v := ?vp3_22) ?hp3_22 zq ?rp3_22
   case hp3_22 =>
    intro wS hSw
    subst hSw
    exact fZ
   refine tkJ 23 (v := ?vp3_23) ?hp3_23 zq ?rp3_23
   case hp3_23 =>
    intro wS hSw
    subst hSw
    exact fZ
   refine tkJ 24 (v := ?vp3_24) ?hp3_24 zq ?rp3_24
   case hp3_24 =>
    intro wS hSw
    subst hSw
    exact fZ
   refine tkJ 25 (v := ?vp3_25) ?hp3_25 zq ?rp3_25
   case hp3_25 =>
    intro wS hSw
    subst hSw
    exact fZ
   refine tkJ 26 (v := ?vp3_26) ?hp3_26 zq ?rp3_26
   case hp3_26 =>
    intro wS hSw
    subst hSw
    exact fZ
   refine tkJ 27 (v := ?vp3_27) ?hp3_27 zq ?rp3_27
   case hp3_27 =>
    intro wS hSw
    subst hSw
    exact fZ
   refine tkJ 28 (v := ?vp3_28) ?hp3_28 zq ?rp3_28
   case hp3_28 =>
    intro wS hSw
    subst hSw
    exact fZ
   refine tkJ 29 (v := ?vp3_29) ?hp3_29 zq ?rp3_29
   case hp3_29 =>
    intro wS hSw
    subst hSw
    exact fZ
   refine tkJ 30 (v := ?vp3_30) ?hp3_30 zq ?rp3_30
   case hp3_30 =>
    intro wS hSw
    subst hSw
    exact fZ
   refine tkJ 31 (v := ?vp3_31) ?hp3_31 zq ?rp3_31
   case hp3_31 =>
    intro wS hSw
    subst hSw
    exact fZ
   refine tkJ 32 (v := ?vp3_32) ?hp3_32 zq ?rp3_32
   case hp3_32 =>
    intro wS hSw
    subst hSw
    exact fZ
   refine tkJ 33 (v := ?vp3_33) ?hp3_33 zq ?rp3_33
   case hp3_33 =>
    intro wS hSw
    subst hSw
    exact fZ
   refine tkJ 34 (v := ?vp3_34) ?hp3_34 zq ?rp3_34
   case hp3_34 =>
    intro wS hSw
    subst hSw
    exact fZ
   refine rdH 35 (fun K hK => ?_)
   go_simp
   go_at_call 102
   refine (uh L3 wD).mono ?_
   rintro e u1 ⟨rfl, h1⟩
   subst u1
   try go_wp2_with fail
   refine hK.out _ _ rfl (fun zq => ?_)
   clear hK K
   try simp only [Act.put, pz, py, px]
   refine tkJ 36 (v := ?vp3_36) ?hp3_36 zq ?rp3_36
   case hp3_36 =>
    intro wS hSw
    subst hSw
    exact fZ
   refine tkJ 37 (v := ?vp3_37) ?hp3_37 zq ?rp3_37
   case hp3_37 =>
    intro wS hSw
    subst hSw
    exact fZ
   refine tkJ 38 (v := ?vp3_38) ?hp3_38 zq ?rp3_38
   case hp3_38 =>
    intro wS hSw
    subst hSw
    exact fZ
   refine skH 39 zq ?_
   refine skH 40 zq ?_
   refine skH 41 zq ?_
   refine skH 42 zq ?_
   refine skH 43 zq ?_
   refine tkJ 44 (v := ?vp3_44) ?hp3_44 zq ?rp3_44
   case hp3_44 =>
    intro wS hSw
    subst hSw
    exact fZ
   refine tkJ 45 (v := ?vp3_45) ?hp3_45 zq ?rp3_45
   case hp3_45 =>
    intro wS hSw
    subst hSw
    exact fZ
   refine dZ ?_
   clear zq
   go_wp2_with fail
   go_ret
   exact ⟨by rw [uh HP]; simp, uh HBD⟩
  go_wp2_with fail
  refine wZz (fun w' => w' = w.drew) rfl (fun zq => ?_)
  generalize w.drew = wD at zq y1 z0 z6 z7 z8 HBD ⊢
  refine tkJ 0 (v := ?vp4_0) ?hp4_0 zq ?rp4_0
  case hp4_0 =>
   intro wS hSw
   subst hSw
   exact fZ
  refine tkJ 1 (v := ?vp4_1) ?hp4_1 zq ?rp4_1
  case hp4_1 =>
   intro wS hSw
   subst hSw
   exact fZ
  refine tkJ 2 (v := ?vp4_2) ?hp4_2 zq ?rp4_2
  case hp4_2 =>
   intro wS hSw
   subst hSw
   exact fZ
  refine tkJ 3 (v := ?vp4_3) ?hp4_3 zq ?rp4_3
  case hp4_3 =>
   intro wS hSw
   subst hSw
   exact fZ
  refine rdH 4 (fun K hK => ?_)
  go_simp
  go_at_call 102
  refine (uh L1 wD).mono ?_
  rintro e u1 ⟨rfl, h1⟩
  subst u1
  try go_wp2_with fail
  refine hK.out _ _ rfl (fun zq => ?_)
  clear hK K
  try simp only [Act.put, pz, py, px]
  refine tkJ 5 (v := ?vp4_5) ?hp4_5 zq ?rp4_5
  case hp4_5 =>
   intro wS hSw
   subst hSw
   exact fZ
  refine tkJ 6 (v := ?vp4_6) ?hp4_6 zq ?rp4_6
  case hp4_6 =>
   intro wS hSw
   subst hSw
   exact fZ
  refine tkJ 7 (v := ?vp4_7) ?hp4_7 zq ?rp4_7
  case hp4_7 =>
   intro wS hSw
   subst hSw
   exact fZ
  refine tkJ 8 (v := ?vp4_8) ?hp4_8 zq ?rp4_8
  case hp4_8 =>
   intro wS hSw
   subst hSw
   exact fZ
  refine tkJ 9 (v := ?vp4_9) ?hp4_9 zq ?rp4_9
  case hp4_9 =>
   intro wS hSw
   subst hSw
   exact fZ
  refine tkJ 10 (v := ?vp4_10) ?hp4_10 zq ?rp4_10
  case hp4_10 =>
   intro wS hSw
   subst hSw
   exact fZ
  refine tkJ 11 (v := ?vp4_11) ?hp4_11 zq ?rp4_11
  case hp4_11 =>
   intro wS hSw
   subst hSw
   exact fZ
  refine tkJ 12 (v := ?vp4_12) ?hp4_12 zq ?rp4_12
  case hp4_12 =>
   intro wS hSw
   subst hSw
   exact fZ
  refine tkJ 13 (v := ?vp4_13) ?hp4_13 zq ?rp4_13
  case hp4_13 =>
   intro wS hSw
   subst hSw
   exact fZ
  refine rdH 14 (fun K hK => ?_)
  go_simp
  go_at_call 102
  refine (uh L2 wD).mono ?_
  rintro e u1 ⟨rfl, h1⟩
  subst u1
  try go_wp2_with fail
  refine hK.out _ _ rfl (fun zq => ?_)
  clear hK K
  try simp only [Act.put, pz, py, px]
  refine tkJ 15 (v := ?vp4_15) ?hp4_15 zq ?rp4_15
  case hp4_15 =>
   intro wS hSw
   subst hSw
   exact fZ
  refine tkJ 16 (v := ?vp4_16) ?hp4_16 zq ?rp4_16
  case hp4_16 =>
   intro wS hSw
   subst hSw
   exact fZ
  refine tkJ 17 (v := ?vp4_17) ?hp4_17 zq ?rp4_17
  case hp4_17 =>
   intro wS hSw
   subst hSw
   exact fZ
  refine tkJ 18 (v := ?vp4_18) ?hp4_18 zq ?rp4_18
  case hp4_18 =>
   intro wS hSw
   subst hSw
   exact fZ
  refine tkJ 19 (v := ?vp4_19) ?hp4_19 zq ?rp4_19
  case hp4_19 =>
   intro wS hSw
   subst hSw
   exact fZ
  refine tkJ 20 (v := ?vp4_20) ?hp4_20 zq ?rp4_20
  case hp4_20 =>
   intro wS hSw
   subst hSw
   exact fZ
  refine tkJ 21 (v := ?vp4_21) ?hp4_21 zq ?rp4_21
  case hp4_21 =>
   intro wS hSw
   subst hSw
   exact fZ
  refine tkJ 22 (v := ?vp4_22) ?hp4_22 zq ?rp4_22
  case hp4_22 =>
   intro wS hSw
   subst hSw
   exact fZ
  refine tkJ 23 (v := ?vp4_23) ?hp4_23 zq ?rp4_23
  case hp4_23 =>
   intro wS hSw
   subst hSw
   exact fZ
  refine tkJ 24 (v := ?vp4_24) ?hp4_24 zq ?rp4_24
  case hp4_24 =>
   intro wS hSw
   subst hSw
   exact fZ
  refine tkJ 25 (v := ?vp4_25) ?hp4_25 zq ?rp4_25
  case hp4_25 =>
   intro wS hSw
   subst hSw
   exact fZ
  refine tkJ 26 (v := ?vp4_26) ?hp4_26 zq ?rp4_26
  case hp4_26 =>
   intro wS hSw
   subst hSw
   exact fZ
  refine tkJ 27 (v := ?vp4_27) ?hp4_27 zq ?rp4_27
  case hp4_27 =>
   intro wS hSw
   subst hSw
   exact fZ
  refine tkJ 28 (v := ?vp4_28) ?hp4_28 zq ?rp4_28
  case hp4_28 =>
   intro wS hSw
   subst hSw
   exact fZ
  refine tkJ 29 (v := ?vp4_29) ?hp4_29 zq ?rp4_29
  case hp4_29 =>
   intro wS hSw
   subst hSw
   exact fZ
  refine tkJ 30 (v := ?vp4_30) ?hp4_30 zq ?rp4_30
  case hp4_30 =>
   intro wS hSw
   subst hSw
   exact fZ
  refine tkJ 31 (v := ?vp4_31) ?hp4_31 zq ?rp4_31
  case hp4_31 =>
   intro wS hSw
   subst hSw
   exact fZ
  refine tkJ 32 (v := ?vp4_32) ?hp4_32 zq ?rp4_32
  case hp4_32 =>
   intro wS hSw
   subst hSw
   exact fZ
  refine tkJ 33 (v := ?vp4_33) ?hp4_33 zq ?rp4_33
  case hp4_33 =>
   intro wS hSw
   subst hSw
   exact fZ
  refine tkJ 34 (v := ?vp4_34) ?hp4_34 zq ?rp4_34
  case hp4_34 =>
   intro wS hSw
   subst hSw
   exact fZ
  refine rdH 35 (fun K hK => ?_)
  go_simp
  go_at_call 102
  refine (uh L3 wD).mono ?_
  rintro e u1 ⟨rfl, h1⟩
  subst u1
  try go_wp2_with fail
  refine hK.out _ _ rfl (fun zq => ?_)
  clear hK K
  try simp only [Act.put, pz, py, px]
  refine tkJ 36 (v := ?vp4_36) ?hp4_36 zq ?rp4_36
  case hp4_36 =>
   intro wS hSw
   subst hSw
   exact fZ
  refine tkJ 37 (v := ?vp4_37) ?hp4_37 zq ?rp4_37
  case hp4_37 =>
   intro wS hSw
   subst hSw
   exact fZ
  refine tkJ 38 (v := ?vp4_38) ?hp4_38 zq ?rp4_38
  case hp4_38 =>
   intro wS hSw
   subst hSw
   exact fZ
  refine tkJ 39 (v := ?vp4_39) ?hp4_39 zq ?rp4_39
  case hp4_39 =>
   intro wS hSw
   subst hSw
   exact fZ
  refine tkJ 40 (v := ?vp4_40) ?hp4_40 zq ?rp4_40
  case hp4_40 =>
   intro wS hSw
   subst hSw
   exact fZ
  refine tkJ 41 (v := ?vp4_41) ?hp4_41 zq ?rp4_41
  case hp4_41 =>
   intro wS hSw
   subst hSw
   exact fZ
  refine tkJ 42 (v := ?vp4_42) ?hp4_42 zq ?rp4_42
  case hp4_42 =>
   intro wS hSw
   subst hSw
   exact fZ
  refine rdH 43 (fun K hK => ?_)
  go_simp
  go_at_call 102
  refine (uh L4 wD).mono ?_
  rintro e u1 ⟨rfl, h1⟩
  subst u1
  try go_wp2_with fail
  refine hK.out _ _ rfl (fun zq => ?_)
  clear hK K
  try simp only [Act.put, pz, py, px]
  refine tkJ 44 (v := ?vp4_44) ?hp4_44 zq ?rp4_44
  case hp4_44 =>
   intro wS hSw
   subst hSw
   exact fZ
  refine tkJ 45 (v := ?vp4_45) ?hp4_45 zq ?rp4_45
  case hp4_45 =>
   intro wS hSw
   subst hSw
   exact fZ
  refine dZ ?_
  clear zq
  go_wp2_with fail
  go_ret
  exact ⟨by rw [uh HP]; simp, uh HBD⟩
 go_wp2_with fail
 refine wZz (fun w' => w' = w.drew) rfl (fun zq => ?_)
 generalize w.drew = wD at zq y1 z0 z6 z7 z8 HBD ⊢
 refine tkJ 0 (v := ?vp5_0) ?hp5_0 zq ?rp5_0
 case hp5_0 =>
  intro wS hSw
  subst hSw
  exact fZ
 refine tkJ 1 (v := ?vp5_1) ?hp5_1 zq ?rp5_1
 case hp5_1 =>
  intro wS hSw
  subst hSw
  exact fZ
 refine tkJ 2 (v := ?vp5_2) ?hp5_2 zq ?rp5_2
 case hp5_2 =>
  intro wS hSw
  subst hSw
  exact fZ
 refine tkJ 3 (v := ?vp5_3) ?hp5_3 zq ?rp5_3
 case hp5_3 =>
  intro wS hSw
  subst hSw
  exact fZ
 refine rdH 4 (fun K hK => ?_)
 go_simp
 go_at_call 102
 refine (uh L1 wD).mono ?_
 rintro e u1 ⟨rfl, h1⟩
 subst u1
 try go_wp2_with fail
 refine hK.out _ _ rfl (fun zq => ?_)
 clear hK K
 try simp only [Act.put, pz, py, px]
 refine tkJ 5 (v := ?vp5_5) ?hp5_5 zq ?rp5_5
 case hp5_5 =>
  intro wS hSw
  subst hSw
  exact fZ
 refine tkJ 6 (v := ?vp5_6) ?hp5_6 zq ?rp5_6
 case hp5_6 =>
  intro wS hSw
  subst hSw
  exact fZ
 refine tkJ 7 (v := ?vp5_7) ?hp5_7 zq ?rp5_7
 case hp5_7 =>
  intro wS hSw
  subst hSw
  exact fZ
 refine tkJ 8 (v := ?vp5_8) ?hp5_8 zq ?rp5_8
 case hp5_8 =>
  intro wS hSw
  subst hSw
  exact fZ
 refine tkJ 9 (v := ?vp5_9) ?hp5_9 zq ?rp5_9
 case hp5_9 =>
  intro wS hSw
  subst hSw
  exact fZ
 refine tkJ 10 (v := ?vp5_10) ?hp5_10 zq ?rp5_10
 case hp5_10 =>
  intro wS hSw
  subst hSw
  exact fZ
 refine tkJ 11 (v := ?vp5_11) ?hp5_11 zq ?rp5_11
 case hp5_11 =>
  intro wS hSw
  subst hSw
  exact fZ
 refine tkJ 12 (v := ?vp5_12) ?hp5_12 zq ?rp5_12
 case hp5_12 =>
  intro wS hSw
  subst hSw
  exact fZ
 refine tkJ 13 (v := ?vp5_13) ?hp5_13 zq ?rp5_13
 case hp5_13 =>
  intro wS hSw
  subst hSw
  exact fZ
 refine rdH 14 (fun K hK => ?_)
 go_simp
 go_at_call 102
 refine (uh L2 wD).mono ?_
 rintro e u1 ⟨rfl, h1⟩
 subst u1
 try go_wp2_with fail
 refine hK.out _ _ rfl (fun zq => ?_)
 clear hK K
 try simp only [Act.put, pz, py, px]
 refine tkJ 15 (v := ?vp5_15) ?hp5_15 zq ?rp5_15
 case hp5_15 =>
  intro wS hSw
  subst hSw
  exact fZ
 refine tkJ 16 (v := ?vp5_16) ?hp5_16 zq ?rp5_16
 case hp5_16 =>
  intro wS hSw
  subst hSw
  exact fZ
 refine tkJ 17 (v := ?vp5_17) ?hp5_17 zq ?rp5_17
 case hp5_17 =>
  intro wS hSw
  subst hSw
  exact fZ
 refine tkJ 18 (v := ?vp5_18) ?hp5_18 zq ?rp5_18
 case hp5_18 =>
  intro wS hSw
  subst hSw
  exact fZ
 refine tkJ 19 (v := ?vp5_19) ?hp5_19 zq ?rp5_19
 case hp5_19 =>
  intro wS hSw
  subst hSw
  exact fZ
 refine tkJ 20 (v := ?vp5_20) ?hp5_20 zq ?rp5_20
 case hp5_20 =>
  intro wS hSw
  subst hSw
  exact fZ
 refine tkJ 21 (v := ?vp5_21) ?hp5_21 zq ?rp5_21
 case hp5_21 =>
  intro wS hSw
  subst hSw
  exact fZ
 refine tkJ 22 (v := ?vp5_22) ?hp5_22 zq ?rp5_22
 case hp5_22 =>
  intro wS hSw
  subst hSw
  exact fZ
 refine skH 23 zq ?_
 refine skH 24 zq ?_
 refine skH 25 zq ?_
 refine skH 26 zq ?_
 refine skH 27 zq ?_
 refine skH 28 zq ?_
 refine skH 29 zq ?_
 refine skH 30 zq ?_
 refine skH 31 zq ?_
 refine skH 32 zq ?_
 refine skH 33 zq ?_
 refine skH 34 zq ?_
 refine skH 35 zq ?_
 refine tkJ 36 (v := ?vp5_36) ?hp5_36 zq ?rp5_36
 case hp5_36 =>
  intro wS hSw
  subst hSw
  exact fZ
 refine tkJ 37 (v := ?vp5_37) ?hp5_37 zq ?rp5_37
 case hp5_37 =>
  intro wS hSw
  subst hSw
  exact fZ
 refine tkJ 38 (v := ?vp5_38) ?hp5_38 zq ?rp5_38
 case hp5_38 =>
  intro wS hSw
  subst hSw
  exact fZ
 refine tkJ 39 (v := ?vp5_39) ?hp5_39 zq ?rp5_39
 case hp5_39 =>
  intro wS hSw
  subst hSw
  exact fZ
 refine tkJ 40 (v := ?vp5_40) ?hp5_40 zq ?rp5_40
 case hp5_40 =>
  intro wS hSw
  subst hSw
  exact fZ
 refine tkJ 41 (v := ?vp5_41) ?hp5_41 zq ?rp5_41
 case hp5_41 =>
  intro wS hSw
  subst hSw
  exact fZ
 refine tkJ 42 (v := ?vp5_42) ?hp5_42 zq ?rp5_42
 case hp5_42 =>
  intro wS hSw
  subst hSw
  exact fZ
 refine rdH 43 (fun K hK => ?_)
 go_simp
 go_at_call 102
 refine (uh L4 wD).mono ?_
 rintro e u1 ⟨rfl, h1⟩
 subst u1
 try go_wp2_with fail
 refine hK.out _ _ rfl (fun zq => ?_)
 clear hK K
 try simp only [Act.put, pz, py, px]
 refine tkJ 44 (v := ?vp5_44) ?hp5_44 zq ?rp5_44
 case hp5_44 =>
  intro wS hSw
  subst hSw
  exact fZ
 refine tkJ 45 (v := ?vp5_45) ?hp5_45 zq ?rp5_45
 case hp5_45 =>
  intro wS hSw
  subst hSw
  exact fZ
 refine dZ ?_
 clear zq
 go_wp2_with fail
 go_ret
 exact ⟨by rw [uh HP]; simp, uh HBD⟩
theorem qk {x : bH} (h : (decide (1 ≤ x.af) && decide (x.af ≤ 999)) = false) : aM x = 3 := by
 rw [aM, if_neg]
 simpa using h
theorem pf {x : bH} (h : (decide (1 ≤ x.af) && decide (x.af ≤ 999)) = true) (hn : x.ids.length < 1 ∨ 5 < x.ids.length) : aM x = 2 := by
 rw [aM, if_pos (by simpa using h), if_neg (by omega)]
theorem sw {x : bH} (h : (decide (1 ≤ x.af) && decide (x.af ≤ 999)) = true) (hn : ¬ x.ids.length < 1) (hm : ¬ 5 < x.ids.length) : aM x = eZ (x.ids.take 0) (x.ids.drop 0) := by
 rw [aM, if_pos (by simpa using h), if_pos (by omega)]
 simp
def lx (w : World) (b o : Nat) (v : Value) (x : bH) : Prop := w.cell? ⟨b, o, none⟩ = some (.int .i64 x.af) ∧ w.cell? ⟨b, o + 1, none⟩ = some v
theorem qA (b o : Nat) (a : Option Addr) (d : Nat) (x : bH) (id : Int) (w : World) (hX : lx w b o (.slice a x.ids.length d) x) (R : (ab.sl ab.int).Reads w [.slice a x.ids.length d] x.ids) :
  Calls Tryz.prog 169 #[.pointer (some ⟨b, o, none⟩), .int .i64 id] w fun e w' => e = .returned (.int .i64 (bL x.ids id)) ∧ w' = w := by
 have x1 := hX.2
 have xl : b < w.heap.size := World.block_lt_of_cell? _ _ x1
 have hbig := R.dK
 have H := yh R
 clear hX R
 generalize x.ids = ids at *
 go_enter Tryz.func169, Tryz.ntmps169
 go_wp2_with fail
 go_loop [5] (fun i => ∃ k : Nat, k ≤ ids.length ∧ i = .int .i64 k ∧ (∀ j (hj : j < ids.length), j < k → ids[j] ≠ id)) (fun i => ids.length - (intOf i).toNat)
 case atStart => exact ⟨0, Nat.zero_le _, rfl, fun j _ h => by omega⟩
 case round =>
  obtain ⟨k, hk, rfl, hz⟩ := hrel
  by_cases hlt : k < ids.length
  ·
   obtain ⟨b2, off, rfl, -⟩ := ab.aI (uh H) (by omega)
   have c1 := dO (uh H) hlt
   cases hq : (ids[k] == id)
   ·
    have HZ : Hid (∀ j (hj : j < ids.length), j < k + 1 → ids[j] ≠ id) := fun j hj hjk => by
     by_cases h2 : j < k
     ·
      exact hz j hj h2
     obtain rfl : j = k := by omega
     simpa using hq
    clear hz
    generalize ids[k] = z at *
    go_wp2_with fail
    go_round
    case rel => exact ⟨k + 1, by omega, by go_num, uh HZ⟩
    case measure => simp [intOf]; omega
   have HP := yh (gJ hlt (by simpa using hq) (fun j hj => hz j (by omega) hj))
   clear hz
   generalize ids[k] = z at *
   go_wp2_with fail
   go_ret
   exact ⟨by rw [uh HP]; rfl, rfl⟩
  obtain rfl : k = ids.length := by omega
  have HP := yh (hD (id := id) (fun j hj => hz j hj hj))
  clear hz
  go_wp2_with fail
  go_ret
  exact ⟨by rw [uh HP]; rfl, rfl⟩
theorem oL (b o : Nat) (a : Option Addr) (d : Nat) (x : bH) (w : World) (hX : lx w b o (.slice a x.ids.length d) x) (R : (ab.sl ab.int).Reads w [.slice a x.ids.length d] x.ids) :
  Calls Tryz.prog 147 #[.pointer (some ⟨b, o, none⟩)] w fun e w' => e = .returned (.int .i64 (aM x)) ∧ w' = w := by
 have x0 := hX.1
 have x1 := hX.2
 have xl : b < w.heap.size := World.block_lt_of_cell? _ _ x1
 have hbig := R.dK
 have HX := yh hX
 have H := yh R
 clear hX R
 go_enter Tryz.func147, Tryz.ntmps147
 go_wp2_with fail
 refine (eE x.af 1 999 w).mono ?_
 rintro e w1 ⟨rfl, h1⟩
 subst w1
 cases d1 : (decide (1 ≤ x.af) && decide (x.af ≤ 999))
 ·
  have HF := yh (qk d1)
  clear d1
  go_wp2_with fail
  go_ret
  exact ⟨by rw [uh HF]; rfl, rfl⟩
 by_cases hn : x.ids.length < 1
 ·
  have HF := yh (pf d1 (Or.inl hn))
  have hd : decide ((x.ids.length : Int) < 1) = true := by simp; omega
  clear d1
  go_wp2_with fail
  go_ret
  exact ⟨by rw [uh HF]; rfl, rfl⟩
 have hd : decide ((x.ids.length : Int) < 1) = false := by simp; omega
 by_cases hm : 5 < x.ids.length
 ·
  have HF := yh (pf d1 (Or.inr hm))
  have hd2 : decide ((5 : Int) < (x.ids.length : Int)) = true := by simp; omega
  clear d1
  go_wp2_with fail
  go_ret
  exact ⟨by rw [uh HF]; rfl, rfl⟩
 have HF := yh (sw d1 hn hm)
 have hd2 : decide ((5 : Int) < (x.ids.length : Int)) = false := by simp; omega
 clear d1
 go_wp2_with fail
 clear hd hd2
 go_loop [3] (fun i => ∃ k : Nat, k ≤ x.ids.length ∧ i = .int .i64 k ∧ aM x = eZ (x.ids.take k) (x.ids.drop k)) (fun i => x.ids.length - (intOf i).toNat)
 case atStart => exact ⟨0, Nat.zero_le _, rfl, uh HF⟩
 case round =>
  obtain ⟨k, hk, rfl, hz⟩ := hrel
  clear HF
  by_cases hlt : k < x.ids.length
  ·
   rw [kb x.ids k hlt] at hz
   have hself := lY hlt
   obtain ⟨b2, off, rfl, -⟩ := ab.aI (uh H) (by omega)
   have c1 := dO (uh H) hlt
   have HP := yh (qA b o (some ⟨b2, off, none⟩) d x x.ids[k] w (uh HX) (uh H))
   have hdl : decide ((k : Int) < (x.ids.length : Int)) = true := by simp; omega
   have HZ := yh hz
   have HS := yh hself
   clear hz hself
   generalize x.ids[k] = z at *
   go_wp2_with fail
   refine (gz z w).mono ?_
   rintro e w1 ⟨rfl, h1⟩
   subst w1
   cases d2 : (decide (1 ≤ z) && decide (z ≤ 5))
   ·
    have hz := uh HZ
    rw [if_neg (by simpa using d2)] at hz
    have HF := yh hz
    clear d2 HZ HS hz
    go_wp2_with fail
    go_ret
    exact ⟨by rw [uh HF]; rfl, rfl⟩
   have hz := uh HZ
   rw [if_pos (by simpa using d2)] at hz
   have HZ2 := yh hz
   clear d2 HZ hz
   go_wp2_with fail
   refine (uh HP).mono ?_
   rintro e w1 ⟨rfl, h1⟩
   subst w1
   clear HP
   by_cases hq : bL x.ids z = (k : Int)
   ·
    have hz := uh HZ2
    rw [if_neg ((uh HS).1 hq)] at hz
    have HF := yh hz
    have hb : (bL x.ids z != (k : Int)) = false := by rw [hq]; simp
    clear HZ2 HS hz hq
    generalize bL x.ids z = p at *
    go_wp2_with fail
    go_round
    case rel => exact ⟨k + 1, by omega, by go_num, uh HF⟩
    case measure => simp [intOf]; omega
   have hz := uh HZ2
   rw [if_pos (Classical.not_not.1 fun hc => hq ((uh HS).2 hc))] at hz
   have HF := yh hz
   have hb : (bL x.ids z != (k : Int)) = true := by rw [bne_iff_ne]; exact hq
   clear HZ2 HS hz hq
   generalize bL x.ids z = p at *
   go_wp2_with fail
   go_ret
   exact ⟨by rw [uh HF]; rfl, rfl⟩
  obtain rfl : k = x.ids.length := by omega
  rw [ml] at hz
  have hdl : decide ((x.ids.length : Int) < (x.ids.length : Int)) = false := by simp
  have HF := yh hz
  clear hz
  go_wp2_with fail
  go_ret
  exact ⟨by rw [uh HF]; rfl, rfl⟩
theorem kJ (c : bH) {xs : List bz} {k : Nat} (hk : k < xs.length) : ch c k (xs.drop k) = if aS xs[k] ≠ 0 then aS xs[k] else if (xs[k].id != (k : Int) + 1) = true then 1 else if (decide (c.af < xs[k].af) || ((xs[k].up && decide (0 ≤ bL c.ids xs[k].id)) && (xs[k].af != c.af))) = true then 7 else ch c (k + 1) (xs.drop (k + 1)) := by
 rw [List.drop_eq_getElem_cons hk, ch]
 by_cases h1 : aS xs[k] ≠ 0
 ·
  rw [if_pos h1, if_pos h1]
 rw [if_neg h1, if_neg h1]
 by_cases h2 : xs[k].id ≠ (k : Int) + 1
 ·
  have b2 : (xs[k].id != (k : Int) + 1) = true := by simpa using h2
  rw [if_pos h2, b2, if_pos rfl]
 have b2 : (xs[k].id != (k : Int) + 1) = false := by simpa using h2
 rw [if_neg h2, b2, if_neg (show ¬ (false = true) by simp)]
 by_cases h3 : c.af < xs[k].af ∨ (xs[k].up = true ∧ 0 ≤ bL c.ids xs[k].id ∧ xs[k].af ≠ c.af)
 ·
  have b3 : (decide (c.af < xs[k].af) || ((xs[k].up && decide (0 ≤ bL c.ids xs[k].id)) && (xs[k].af != c.af))) = true := by
   rcases h3 with h3 | ⟨h4, h5, h6⟩
   ·
    simp [h3]
   simp [h4, h5, h6]
  rw [if_pos h3, b3, if_pos rfl]
 rw [if_neg h3, if_neg]
 intro q
 apply h3
 simp only [Bool.or_eq_true, Bool.and_eq_true, decide_eq_true_eq, bne_iff_ne] at q
 rcases q with q | ⟨⟨q1, q2⟩, q3⟩
 ·
  exact Or.inl q
 exact Or.inr ⟨q1, q2, q3⟩
theorem oX (a3 : Option Addr) (d3 : Nat) (a4 : Option Addr) (d4 : Nat) (a5 : Option Addr) (d5 : Nat) (a6 : Option Addr) (d6 : Nat) (x : ay) (xb : Nat) (w : World) (hX : aj 0 #[.int .i64 x.now, .int .i64 x.events, .int .i64 x.chain.af, .slice a3 x.chain.ids.length d3, .slice a4 x.nodes.length d4, .slice a5 x.msgs.length d5, .slice a6 x.ae.length d6] 37 w xb) (h : ab.aC.Reads w [.int .i64 x.now, .int .i64 x.events, .int .i64 x.chain.af, .slice a3 x.chain.ids.length d3, .slice a4 x.nodes.length d4, .slice a5 x.msgs.length d5, .slice a6 x.ae.length d6] x) :
  Calls Tryz.prog 148 #[.pointer (some ⟨xb, 0, none⟩)] w fun e w' => e = .returned (.int .i64 (bE x)) ∧ Below w.heap.size w w' := by
 obtain ⟨_, _, _, _, _, _, _, _, hq, RC, RN, -, -⟩ := aG h
 simp only [List.cons.injEq, Value.slice.injEq, and_true, true_and] at hq
 obtain ⟨⟨rfl, rfl⟩, ⟨rfl, rfl⟩, ⟨rfl, rfl⟩, rfl, rfl⟩ := hq
 obtain ⟨_, _, hq, RI⟩ := bP RC
 simp only [List.cons.injEq, Value.slice.injEq, and_true, true_and] at hq
 obtain ⟨rfl, rfl⟩ := hq
 have hbig := RI.dK
 have hbn := RN.dK
 have HI := yh RI
 have HN := yh RN
 have HX := yh hX
 have HQ : Hid (bE x = if ch x.chain 0 (x.nodes.drop 0) ≠ 0 then ch x.chain 0 (x.nodes.drop 0) else if (x.chain.ids.drop 0).all (cj x) = true then 0 else 4) := by
  show bE x = _
  unfold bE
  rfl
 have HV : Hid (∀ n, ch x.chain 0 (x.nodes.drop 0) = n → n ≠ 0 → bE x = n) := fun n h1 h2 => by rw [uh HQ, h1, if_pos h2]
 have HV0 : Hid (ch x.chain 0 (x.nodes.drop 0) = 0 → bE x = if (x.chain.ids.drop 0).all (cj x) = true then 0 else 4) := fun h1 => by rw [uh HQ, h1]; rfl
 clear RC RN RI h hX HQ
 generalize bE x = r at *
 generalize hF0 : ch x.chain 0 (x.nodes.drop 0) = f0 at *
 replace hF0 := hF0.symm
 go_enter Tryz.func148, Tryz.ntmps148
 go_wp2_with fail
 go_loopw [3] (fun i wr => ∃ k : Nat, k ≤ x.nodes.length ∧ i = .int .i64 k ∧ f0 = ch x.chain k (x.nodes.drop k) ∧ Below w.heap.size w wr) (fun i _ => x.nodes.length - (intOf i).toNat)
 case atStart => exact ⟨0, Nat.zero_le _, rfl, hF0, Below.refl _ _⟩
 case round =>
  obtain ⟨k, hk, rfl, hF, hB⟩ := hrel
  clear hF0
  have hX1 := (uh HX).au hB
  have v2 := aj.at hX1 2 _ rfl
  have v3 := aj.at hX1 4 _ rfl
  have w3 := aj.at hX1 3 _ rfl
  simp only [ga, gb, gc] at v2 v3 w3
  have xl := hX1.lt
  have HX1 := yh hX1
  clear hX1 w3
  by_cases hlt : k < x.nodes.length
  ·
   obtain ⟨b, off, rfl, hbl⟩ := ab.aI (uh HN) (by omega)
   obtain ⟨row, hcl, hr⟩ := ab.bm (uh HN) hlt
   replace hr := hr.ag hB
   rw [kJ x.chain hlt] at hF
   have hdl : decide ((k : Int) < (x.nodes.length : Int)) = true := by simp; omega
   have hrl := hr.len
   obtain ⟨a4n, d4n, rfl, RW⟩ := bK hr
   have hRI : dU #[.int .i64 (x.nodes[k]).id, .bool (x.nodes[k]).up, .int .i64 (x.nodes[k]).af, .int .i64 (x.nodes[k]).az, .slice a4n (x.nodes[k]).writes.length d4n, .int .i64 (x.nodes[k]).sure, .int .i64 (x.nodes[k]).clean] wr b (off + k * 7) := dU.ofRow (A := ab.ax) (k := k) (fun m hm => (hB.cell (p := ⟨b, off + k * 7 + m, none⟩) hbl).trans (hcl m hm)) hrl (Nat.lt_of_lt_of_le hbl hB.size)
   have hI := (uh HI).ag hB
   have HL := yh (pX b (off + k * 7) a4n d4n _ wr hRI RW)
   have HRI := yh hRI
   have HB := yh hB
   have HF := yh hF
   have HI1 := yh hI
   clear hF hB hr hrl hcl hRI hI RW
   generalize hx : x.nodes[k] = n at *
   clear hx
   go_wp2_with fail
   refine (uh HL).mono ?_
   rintro e w5 ⟨rfl, hb⟩
   replace HX1 := yh ((uh HX1).au hb)
   replace HRI := yh ((uh HRI).au hb)
   replace HI1 := yh ((uh HI1).ag hb)
   replace HB := bZ HB hb
   clear hb HL v2 v3
   by_cases e1 : aS n ≠ 0
   ·
    have hd : (aS n != 0) = true := by simpa using e1
    have HE := yh (uh HV _ ((uh HF).trans (if_pos e1)) e1)
    clear e1
    generalize aS n = c at *
    go_wp2_with fail
    go_ret
    exact ⟨by rw [uh HE]; rfl, uh HB⟩
   replace HF := yh ((uh HF).trans (if_neg e1))
   have hd : aS n = 0 := by simpa using e1
   clear e1
   rw [hd]
   clear hd
   have HB0 := HB
   replace HB := yh (uh HB).drew
   have z0' := (uh HRI).at 0 _ rfl
   have z0 := (uh HRI).drew.at 0 _ rfl
   have z1 := (uh HRI).drew.at 1 _ rfl
   have z2 := (uh HRI).drew.at 2 _ rfl
   have y2 := aj.at (uh HX1).drew 2 _ rfl
   simp only [List.getElem_toArray, List.getElem_cons_zero, List.getElem_cons_succ, Nat.add_zero] at z0' z0 z1 z2 y2
   have xl5 := (uh HX1).lt
   have rl5 := (uh HRI).lt
   have LA : Hid (Calls Tryz.prog 169 #[.pointer (some ⟨xb, 2, none⟩), .int .i64 n.id] w5.drew fun e w' => e = .returned (.int .i64 (bL x.chain.ids n.id)) ∧ w' = w5.drew) := qA xb 2 _ _ x.chain n.id w5.drew ⟨(uh HX1).drew.at 2 _ rfl, (uh HX1).drew.at 3 _ rfl⟩ ((uh HI1).drew 1)
   generalize hid : n.id = id at *
   cases e2 : (id != (k : Int) + 1)
   ·
    replace HF := yh ((uh HF).trans (if_neg (by rw [e2]; simp)))
    clear hid
    generalize hup : n.up = up at *
    generalize hep : n.af = ep at *
    generalize hce : x.chain.af = ce at *
    generalize bL x.chain.ids id = p at *
    clear hup hep hce
    cases e3 : decide (ce < ep)
    ·
     cases up
     ·
      replace HF := yh ((uh HF).trans (if_neg (by rw [e3]; simp)))
      go_wp2_with fail
      refine wZz (fun w' => w' = w5.drew) rfl (fun zq => ?_)
      generalize w5.drew = wD at zq z0 z1 z2 y2 HB LA ⊢
      refine tkJ 0 (v := ?vq1_0) ?hq1_0 zq ?rq1_0
      case hq1_0 =>
       intro wS hSw
       subst hSw
       exact fZ
      refine tkJ 1 (v := ?vq1_1) ?hq1_1 zq ?rq1_1
      case hq1_1 =>
       intro wS hSw
       subst hSw
       exact fZ
      refine tkJ 2 (v := ?vq1_2) ?hq1_2 zq ?rq1_2
      case hq1_2 =>
       intro wS hSw
       subst hSw
       exact fZ
      refine tkJ 3 (v := ?vq1_3) ?hq1_3 zq ?rq1_3
      case hq1_3 =>
       intro wS hSw
       subst hSw
       exact fZ
      refine tkJ 4 (v := ?vq1_4) ?hq1_4 zq ?rq1_4
      case hq1_4 =>
       intro wS hSw
       subst hSw
       exact fZ
      refine tkJ 5 (v := ?vq1_5) ?hq1_5 zq ?rq1_5
      case hq1_5 =>
       intro wS hSw
       subst hSw
       exact fZ
      refine tkJ 6 (v := ?vq1_6) ?hq1_6 zq ?rq1_6
      case hq1_6 =>
       intro wS hSw
       subst hSw
       exact fZ
      refine tkJ 7 (v := ?vq1_7) ?hq1_7 zq ?rq1_7
      case hq1_7 =>
       intro wS hSw
       subst hSw
       exact fZ
      refine tkJ 8 (v := ?vq1_8) ?hq1_8 zq ?rq1_8
      case hq1_8 =>
       intro wS hSw
       subst hSw
       exact fZ
      refine tkJ 9 (v := ?vq1_9) ?hq1_9 zq ?rq1_9
      case hq1_9 =>
       intro wS hSw
       subst hSw
       exact fZ
      refine tkJ 10 (v := ?vq1_10) ?hq1_10 zq ?rq1_10
      case hq1_10 =>
       intro wS hSw
       subst hSw
       exact fZ
      refine tkJ 11 (v := ?vq1_11) ?hq1_11 zq ?rq1_11
      case hq1_11 =>
       intro wS hSw
       subst hSw
       exact fZ
      refine tkJ 12 (v := ?vq1_12) ?hq1_12 zq ?rq1_12
      case hq1_12 =>
       intro wS hSw
       subst hSw
       exact fZ
      refine tkJ 13 (v := ?vq1_13) ?hq1_13 zq ?rq1_13
      case hq1_13 =>
       intro wS hSw
       subst hSw
       exact fZ
      refine tkJ 14 (v := ?vq1_14) ?hq1_14 zq ?rq1_14
      case hq1_14 =>
       intro wS hSw
       subst hSw
       exact fZ
      refine tkJ 15 (v := ?vq1_15) ?hq1_15 zq ?rq1_15
      case hq1_15 =>
       intro wS hSw
       subst hSw
       exact fZ
      refine skH 16 zq ?_
      refine skH 17 zq ?_
      refine skH 18 zq ?_
      refine skH 19 zq ?_
      refine skH 20 zq ?_
      refine skH 21 zq ?_
      refine skH 22 zq ?_
      refine skH 23 zq ?_
      refine skH 24 zq ?_
      refine tkJ 25 (v := ?vq1_25) ?hq1_25 zq ?rq1_25
      case hq1_25 =>
       intro wS hSw
       subst hSw
       exact fZ
      refine tkJ 26 (v := ?vq1_26) ?hq1_26 zq ?rq1_26
      case hq1_26 =>
       intro wS hSw
       subst hSw
       exact fZ
      refine skH 27 zq ?_
      refine skH 28 zq ?_
      refine skH 29 zq ?_
      refine skH 30 zq ?_
      refine skH 31 zq ?_
      refine skH 32 zq ?_
      refine skH 33 zq ?_
      refine skH 34 zq ?_
      refine skH 35 zq ?_
      refine skH 36 zq ?_
      refine tkJ 37 (v := ?vq1_37) ?hq1_37 zq ?rq1_37
      case hq1_37 =>
       intro wS hSw
       subst hSw
       exact fZ
      refine tkJ 38 (v := ?vq1_38) ?hq1_38 zq ?rq1_38
      case hq1_38 =>
       intro wS hSw
       subst hSw
       exact fZ
      refine dZ ?_
      clear zq
      go_wp2_with fail
      go_roundw
      case rel => exact ⟨k + 1, by omega, by go_num, uh HF, uh HB⟩
      case measure => simp [intOf]; omega
     cases e4 : decide (0 ≤ p)
     ·
      replace HF := yh ((uh HF).trans (if_neg (by rw [e3, e4]; simp)))
      go_wp2_with fail
      refine wZz (fun w' => w' = w5.drew) rfl (fun zq => ?_)
      generalize w5.drew = wD at zq z0 z1 z2 y2 HB LA ⊢
      refine tkJ 0 (v := ?vq2_0) ?hq2_0 zq ?rq2_0
      case hq2_0 =>
       intro wS hSw
       subst hSw
       exact fZ
      refine tkJ 1 (v := ?vq2_1) ?hq2_1 zq ?rq2_1
      case hq2_1 =>
       intro wS hSw
       subst hSw
       exact fZ
      refine tkJ 2 (v := ?vq2_2) ?hq2_2 zq ?rq2_2
      case hq2_2 =>
       intro wS hSw
       subst hSw
       exact fZ
      refine tkJ 3 (v := ?vq2_3) ?hq2_3 zq ?rq2_3
      case hq2_3 =>
       intro wS hSw
       subst hSw
       exact fZ
      refine tkJ 4 (v := ?vq2_4) ?hq2_4 zq ?rq2_4
      case hq2_4 =>
       intro wS hSw
       subst hSw
       exact fZ
      refine tkJ 5 (v := ?vq2_5) ?hq2_5 zq ?rq2_5
      case hq2_5 =>
       intro wS hSw
       subst hSw
       exact fZ
      refine tkJ 6 (v := ?vq2_6) ?hq2_6 zq ?rq2_6
      case hq2_6 =>
       intro wS hSw
       subst hSw
       exact fZ
      refine tkJ 7 (v := ?vq2_7) ?hq2_7 zq ?rq2_7
      case hq2_7 =>
       intro wS hSw
       subst hSw
       exact fZ
      refine tkJ 8 (v := ?vq2_8) ?hq2_8 zq ?rq2_8
      case hq2_8 =>
       intro wS hSw
       subst hSw
       exact fZ
      refine tkJ 9 (v := ?vq2_9) ?hq2_9 zq ?rq2_9
      case hq2_9 =>
       intro wS hSw
       subst hSw
       exact fZ
      refine tkJ 10 (v := ?vq2_10) ?hq2_10 zq ?rq2_10
      case hq2_10 =>
       intro wS hSw
       subst hSw
       exact fZ
      refine tkJ 11 (v := ?vq2_11) ?hq2_11 zq ?rq2_11
      case hq2_11 =>
       intro wS hSw
       subst hSw
       exact fZ
      refine tkJ 12 (v := ?vq2_12) ?hq2_12 zq ?rq2_12
      case hq2_12 =>
       intro wS hSw
       subst hSw
       exact fZ
      refine tkJ 13 (v := ?vq2_13) ?hq2_13 zq ?rq2_13
      case hq2_13 =>
       intro wS hSw
       subst hSw
       exact fZ
      refine tkJ 14 (v := ?vq2_14) ?hq2_14 zq ?rq2_14
      case hq2_14 =>
       intro wS hSw
       subst hSw
       exact fZ
      refine tkJ 15 (v := ?vq2_15) ?hq2_15 zq ?rq2_15
      case hq2_15 =>
       intro wS hSw
       subst hSw
       exact fZ
      refine tkJ 16 (v := ?vq2_16) ?hq2_16 zq ?rq2_16
      case hq2_16 =>
       intro wS hSw
       subst hSw
       exact fZ
      refine tkJ 17 (v := ?vq2_17) ?hq2_17 zq ?rq2_17
      case hq2_17 =>
       intro wS hSw
       subst hSw
       exact fZ
      refine tkJ 18 (v := ?vq2_18) ?hq2_18 zq ?rq2_18
      case hq2_18 =>
       intro wS hSw
       subst hSw
       exact fZ
      refine tkJ 19 (v := ?vq2_19) ?hq2_19 zq ?rq2_19
      case hq2_19 =>
       intro wS hSw
       subst hSw
       exact fZ
      refine tkJ 20 (v := ?vq2_20) ?hq2_20 zq ?rq2_20
      case hq2_20 =>
       intro wS hSw
       subst hSw
       exact fZ
      refine tkJ 21 (v := ?vq2_21) ?hq2_21 zq ?rq2_21
      case hq2_21 =>
       intro wS hSw
       subst hSw
       exact fZ
      refine tkJ 22 (v := ?vq2_22) ?hq2_22 zq ?rq2_22
      case hq2_22 =>
       intro wS hSw
       subst hSw
       exact fZ
      refine rdH 23 (fun K hK => ?_)
      go_simp
      go_at_call 169
      refine (uh LA).mono ?_
      rintro e u1 ⟨rfl, h1⟩
      subst u1
      try go_wp2_with fail
      refine hK.out _ _ rfl (fun zq => ?_)
      clear hK K
      try simp only [Act.put, pz, py, px]
      refine tkJ 24 (v := ?vq2_24) ?hq2_24 zq ?rq2_24
      case hq2_24 =>
       intro wS hSw
       subst hSw
       exact fZ
      refine tkJ 25 (v := ?vq2_25) ?hq2_25 zq ?rq2_25
      case hq2_25 =>
       intro wS hSw
       subst hSw
       exact fZ
      refine tkJ 26 (v := ?vq2_26) ?hq2_26 zq ?rq2_26
      case hq2_26 =>
       intro wS hSw
       subst hSw
       exact fZ
      refine skH 27 zq ?_
      refine skH 28 zq ?_
      refine skH 29 zq ?_
      refine skH 30 zq ?_
      refine skH 31 zq ?_
      refine skH 32 zq ?_
      refine skH 33 zq ?_
      refine skH 34 zq ?_
      refine skH 35 zq ?_
      refine skH 36 zq ?_
      refine tkJ 37 (v := ?vq2_37) ?hq2_37 zq ?rq2_37
      case hq2_37 =>
       intro wS hSw
       subst hSw
       exact fZ
      refine tkJ 38 (v := ?vq2_38) ?hq2_38 zq ?rq2_38
      case hq2_38 =>
       intro wS hSw
       subst hSw
       exact fZ
      refine dZ ?_
      clear zq
      go_wp2_with fail
      go_roundw
      case rel => exact ⟨k + 1, by omega, by go_num, uh HF, uh HB⟩
      case measure => simp [intOf]; omega
     cases e5 : (ep != ce)
     ·
      replace HF := yh ((uh HF).trans (if_neg (by rw [e3, e4, e5]; simp)))
      go_wp2_with fail
      refine wZz (fun w' => w' = w5.drew) rfl (fun zq => ?_)
      generalize w5.drew = wD at zq z0 z1 z2 y2 HB LA ⊢
      refine tkJ 0 (v := ?vq3_0) ?hq3_0 zq ?rq3_0
      case hq3_0 =>
       intro wS hSw
       subst hSw
       exact fZ
      refine tkJ 1 (v := ?vq3_1) ?hq3_1 zq ?rq3_1
      case hq3_1 =>
       intro wS hSw
       subst hSw
       exact fZ
      refine tkJ 2 (v := ?vq3_2) ?hq3_2 zq ?rq3_2
      case hq3_2 =>
       intro wS hSw
       subst hSw
       exact fZ
      refine tkJ 3 (v := ?vq3_3) ?hq3_3 zq ?rq3_3
      case hq3_3 =>
       intro wS hSw
       subst hSw
       exact fZ
      refine tkJ 4 (v := ?vq3_4) ?hq3_4 zq ?rq3_4
      case hq3_4 =>
       intro wS hSw
       subst hSw
       exact fZ
      refine tkJ 5 (v := ?vq3_5) ?hq3_5 zq ?rq3_5
      case hq3_5 =>
       intro wS hSw
       subst hSw
       exact fZ
      refine tkJ 6 (v := ?vq3_6) ?hq3_6 zq ?rq3_6
      case hq3_6 =>
       intro wS hSw
       subst hSw
       exact fZ
      refine tkJ 7 (v := ?vq3_7) ?hq3_7 zq ?rq3_7
      case hq3_7 =>
       intro wS hSw
       subst hSw
       exact fZ
      refine tkJ 8 (v := ?vq3_8) ?hq3_8 zq ?rq3_8
      case hq3_8 =>
       intro wS hSw
       subst hSw
       exact fZ
      refine tkJ 9 (v := ?vq3_9) ?hq3_9 zq ?rq3_9
      case hq3_9 =>
       intro wS hSw
       subst hSw
       exact fZ
      refine tkJ 10 (v := ?vq3_10) ?hq3_10 zq ?rq3_10
      case hq3_10 =>
       intro wS hSw
       subst hSw
       exact fZ
      refine tkJ 11 (v := ?vq3_11) ?hq3_11 zq ?rq3_11
      case hq3_11 =>
       intro wS hSw
       subst hSw
       exact fZ
      refine tkJ 12 (v := ?vq3_12) ?hq3_12 zq ?rq3_12
      case hq3_12 =>
       intro wS hSw
       subst hSw
       exact fZ
      refine tkJ 13 (v := ?vq3_13) ?hq3_13 zq ?rq3_13
      case hq3_13 =>
       intro wS hSw
       subst hSw
       exact fZ
      refine tkJ 14 (v := ?vq3_14) ?hq3_14 zq ?rq3_14
      case hq3_14 =>
       intro wS hSw
       subst hSw
       exact fZ
      refine tkJ 15 (v := ?vq3_15) ?hq3_15 zq ?rq3_15
      case hq3_15 =>
       intro wS hSw
       subst hSw
       exact fZ
      refine tkJ 16 (v := ?vq3_16) ?hq3_16 zq ?rq3_16
      case hq3_16 =>
       intro wS hSw
       subst hSw
       exact fZ
      refine tkJ 17 (v := ?vq3_17) ?hq3_17 zq ?rq3_17
      case hq3_17 =>
       intro wS hSw
       subst hSw
       exact fZ
      refine tkJ 18 (v := ?vq3_18) ?hq3_18 zq ?rq3_18
      case hq3_18 =>
       intro wS hSw
       subst hSw
       exact fZ
      refine tkJ 19 (v := ?vq3_19) ?hq3_19 zq ?rq3_19
      case hq3_19 =>
       intro wS hSw
       subst hSw
       exact fZ
      refine tkJ 20 (v := ?vq3_20) ?hq3_20 zq ?rq3_20
      case hq3_20 =>
       intro wS hSw
       subst hSw
       exact fZ
      refine tkJ 21 (v := ?vq3_21) ?hq3_21 zq ?rq3_21
      case hq3_21 =>
       intro wS hSw
       subst hSw
       exact fZ
      refine tkJ 22 (v := ?vq3_22) ?hq3_22 zq ?rq3_22
      case hq3_22 =>
       intro wS hSw
       subst hSw
       exact fZ
      refine rdH 23 (fun K hK => ?_)
      go_simp
      go_at_call 169
      refine (uh LA).mono ?_
      rintro e u1 ⟨rfl, h1⟩
      subst u1
      try go_wp2_with fail
      refine hK.out _ _ rfl (fun zq => ?_)
      clear hK K
      try simp only [Act.put, pz, py, px]
      refine tkJ 24 (v := ?vq3_24) ?hq3_24 zq ?rq3_24
      case hq3_24 =>
       intro wS hSw
       subst hSw
       exact fZ
      refine tkJ 25 (v := ?vq3_25) ?hq3_25 zq ?rq3_25
      case hq3_25 =>
       intro wS hSw
       subst hSw
       exact fZ
      refine tkJ 26 (v := ?vq3_26) ?hq3_26 zq ?rq3_26
      case hq3_26 =>
       intro wS hSw
       subst hSw
       exact fZ
      refine tkJ 27 (v := ?vq3_27) ?hq3_27 zq ?rq3_27
      case hq3_27 =>
       intro wS hSw
       subst hSw
       exact fZ
      refine tkJ 28 (v := ?vq3_28) ?hq3_28 zq ?rq3_28
      case hq3_28 =>
       intro wS hSw
       subst hSw
       exact fZ
      refine tkJ 29 (v := ?vq3_29) ?hq3_29 zq ?rq3_29
      case hq3_29 =>
       intro wS hSw
       subst hSw
       exact fZ
      refine tkJ 30 (v := ?vq3_30) ?hq3_30 zq ?rq3_30
      case hq3_30 =>
       intro wS hSw
       subst hSw
       exact fZ
      refine tkJ 31 (v := ?vq3_31) ?hq3_31 zq ?rq3_31
      case hq3_31 =>
       intro wS hSw
       subst hSw
       exact fZ
      refine tkJ 32 (v := ?vq3_32) ?hq3_32 zq ?rq3_32
      case hq3_32 =>
       intro wS hSw
       subst hSw
       exact fZ
      refine tkJ 33 (v := ?vq3_33) ?hq3_33 zq ?rq3_33
      case hq3_33 =>
       intro wS hSw
       subst hSw
       exact fZ
      refine tkJ 34 (v := ?vq3_34) ?hq3_34 zq ?rq3_34
      case hq3_34 =>
       intro wS hSw
       subst hSw
       exact fZ
      refine tkJ 35 (v := ?vq3_35) ?hq3_35 zq ?rq3_35
      case hq3_35 =>
       intro wS hSw
       subst hSw
       exact fZ
      refine tkJ 36 (v := ?vq3_36) ?hq3_36 zq ?rq3_36
      case hq3_36 =>
       intro wS hSw
       subst hSw
       exact fZ
      refine tkJ 37 (v := ?vq3_37) ?hq3_37 zq ?rq3_37
      case hq3_37 =>
       intro wS hSw
       subst hSw
       exact fZ
      refine tkJ 38 (v := ?vq3_38) ?hq3_38 zq ?rq3_38
      case hq3_38 =>
       intro wS hSw
       subst hSw
       exact fZ
      refine dZ ?_
      clear zq
      go_wp2_with fail
      go_roundw
      case rel => exact ⟨k + 1, by omega, by go_num, uh HF, uh HB⟩
      case measure => simp [intOf]; omega
     have HE := yh (uh HV _ ((uh HF).trans (if_pos (by rw [e3, e4, e5]; simp))) (by decide))
     go_wp2_with fail
     refine wZz (fun w' => w' = w5.drew) rfl (fun zq => ?_)
     generalize w5.drew = wD at zq z0 z1 z2 y2 HB LA ⊢
     refine tkJ 0 (v := ?vq4_0) ?hq4_0 zq ?rq4_0
     case hq4_0 =>
      intro wS hSw
      subst hSw
      exact fZ
     refine tkJ 1 (v := ?vq4_1) ?hq4_1 zq ?rq4_1
     case hq4_1 =>
      intro wS hSw
      subst hSw
      exact fZ
     refine tkJ 2 (v := ?vq4_2) ?hq4_2 zq ?rq4_2
     case hq4_2 =>
      intro wS hSw
      subst hSw
      exact fZ
     refine tkJ 3 (v := ?vq4_3) ?hq4_3 zq ?rq4_3
     case hq4_3 =>
      intro wS hSw
      subst hSw
      exact fZ
     refine tkJ 4 (v := ?vq4_4) ?hq4_4 zq ?rq4_4
     case hq4_4 =>
      intro wS hSw
      subst hSw
      exact fZ
     refine tkJ 5 (v := ?vq4_5) ?hq4_5 zq ?rq4_5
     case hq4_5 =>
      intro wS hSw
      subst hSw
      exact fZ
     refine tkJ 6 (v := ?vq4_6) ?hq4_6 zq ?rq4_6
     case hq4_6 =>
      intro wS hSw
      subst hSw
      exact fZ
     refine tkJ 7 (v := ?vq4_7) ?hq4_7 zq ?rq4_7
     case hq4_7 =>
      intro wS hSw
      subst hSw
      exact fZ
     refine tkJ 8 (v := ?vq4_8) ?hq4_8 zq ?rq4_8
     case hq4_8 =>
      intro wS hSw
      subst hSw
      exact fZ
     refine tkJ 9 (v := ?vq4_9) ?hq4_9 zq ?rq4_9
     case hq4_9 =>
      intro wS hSw
      subst hSw
      exact fZ
     refine tkJ 10 (v := ?vq4_10) ?hq4_10 zq ?rq4_10
     case hq4_10 =>
      intro wS hSw
      subst hSw
      exact fZ
     refine tkJ 11 (v := ?vq4_11) ?hq4_11 zq ?rq4_11
     case hq4_11 =>
      intro wS hSw
      subst hSw
      exact fZ
     refine tkJ 12 (v := ?vq4_12) ?hq4_12 zq ?rq4_12
     case hq4_12 =>
      intro wS hSw
      subst hSw
      exact fZ
     refine tkJ 13 (v := ?vq4_13) ?hq4_13 zq ?rq4_13
     case hq4_13 =>
      intro wS hSw
      subst hSw
      exact fZ
     refine tkJ 14 (v := ?vq4_14) ?hq4_14 zq ?rq4_14
     case hq4_14 =>
      intro wS hSw
      subst hSw
      exact fZ
     refine tkJ 15 (v := ?vq4_15) ?hq4_15 zq ?rq4_15
     case hq4_15 =>
      intro wS hSw
      subst hSw
      exact fZ
     refine tkJ 16 (v := ?vq4_16) ?hq4_16 zq ?rq4_16
     case hq4_16 =>
      intro wS hSw
      subst hSw
      exact fZ
     refine tkJ 17 (v := ?vq4_17) ?hq4_17 zq ?rq4_17
     case hq4_17 =>
      intro wS hSw
      subst hSw
      exact fZ
     refine tkJ 18 (v := ?vq4_18) ?hq4_18 zq ?rq4_18
     case hq4_18 =>
      intro wS hSw
      subst hSw
      exact fZ
     refine tkJ 19 (v := ?vq4_19) ?hq4_19 zq ?rq4_19
     case hq4_19 =>
      intro wS hSw
      subst hSw
      exact fZ
     refine tkJ 20 (v := ?vq4_20) ?hq4_20 zq ?rq4_20
     case hq4_20 =>
      intro wS hSw
      subst hSw
      exact fZ
     refine tkJ 21 (v := ?vq4_21) ?hq4_21 zq ?rq4_21
     case hq4_21 =>
      intro wS hSw
      subst hSw
      exact fZ
     refine tkJ 22 (v := ?vq4_22) ?hq4_22 zq ?rq4_22
     case hq4_22 =>
      intro wS hSw
      subst hSw
      exact fZ
     refine rdH 23 (fun K hK => ?_)
     go_simp
     go_at_call 169
     refine (uh LA).mono ?_
     rintro e u1 ⟨rfl, h1⟩
     subst u1
     try go_wp2_with fail
     refine hK.out _ _ rfl (fun zq => ?_)
     clear hK K
     try simp only [Act.put, pz, py, px]
     refine tkJ 24 (v := ?vq4_24) ?hq4_24 zq ?rq4_24
     case hq4_24 =>
      intro wS hSw
      subst hSw
      exact fZ
     refine tkJ 25 (v := ?vq4_25) ?hq4_25 zq ?rq4_25
     case hq4_25 =>
      intro wS hSw
      subst hSw
      exact fZ
     refine tkJ 26 (v := ?vq4_26) ?hq4_26 zq ?rq4_26
     case hq4_26 =>
      intro wS hSw
      subst hSw
      exact fZ
     refine tkJ 27 (v := ?vq4_27) ?hq4_27 zq ?rq4_27
     case hq4_27 =>
      intro wS hSw
      subst hSw
      exact fZ
     refine tkJ 28 (v := ?vq4_28) ?hq4_28 zq ?rq4_28
     case hq4_28 =>
      intro wS hSw
      subst hSw
      exact fZ
     refine tkJ 29 (v := ?vq4_29) ?hq4_29 zq ?rq4_29
     case hq4_29 =>
      intro wS hSw
      subst hSw
      exact fZ
     refine tkJ 30 (v := ?vq4_30) ?hq4_30 zq ?rq4_30
     case hq4_30 =>
      intro wS hSw
      subst hSw
      exact fZ
     refine tkJ 31 (v := ?vq4_31) ?hq4_31 zq ?rq4_31
     case hq4_31 =>
      intro wS hSw
      subst hSw
      exact fZ
     refine tkJ 32 (v := ?vq4_32) ?hq4_32 zq ?rq4_32
     case hq4_32 =>
      intro wS hSw
      subst hSw
      exact fZ
     refine tkJ 33 (v := ?vq4_33) ?hq4_33 zq ?rq4_33
     case hq4_33 =>
      intro wS hSw
      subst hSw
      exact fZ
     refine tkJ 34 (v := ?vq4_34) ?hq4_34 zq ?rq4_34
     case hq4_34 =>
      intro wS hSw
      subst hSw
      exact fZ
     refine tkJ 35 (v := ?vq4_35) ?hq4_35 zq ?rq4_35
     case hq4_35 =>
      intro wS hSw
      subst hSw
      exact fZ
     refine tkJ 36 (v := ?vq4_36) ?hq4_36 zq ?rq4_36
     case hq4_36 =>
      intro wS hSw
      subst hSw
      exact fZ
     refine tkJ 37 (v := ?vq4_37) ?hq4_37 zq ?rq4_37
     case hq4_37 =>
      intro wS hSw
      subst hSw
      exact fZ
     refine tkJ 38 (v := ?vq4_38) ?hq4_38 zq ?rq4_38
     case hq4_38 =>
      intro wS hSw
      subst hSw
      exact fZ
     refine dZ ?_
     clear zq
     go_wp2_with fail
     go_ret
     exact ⟨by rw [uh HE]; rfl, uh HB⟩
    have HE := yh (uh HV _ ((uh HF).trans (if_pos (by rw [e3]; simp))) (by decide))
    go_wp2_with fail
    refine wZz (fun w' => w' = w5.drew) rfl (fun zq => ?_)
    generalize w5.drew = wD at zq z0 z1 z2 y2 HB LA ⊢
    refine tkJ 0 (v := ?vq5_0) ?hq5_0 zq ?rq5_0
    case hq5_0 =>
     intro wS hSw
     subst hSw
     exact fZ
    refine tkJ 1 (v := ?vq5_1) ?hq5_1 zq ?rq5_1
    case hq5_1 =>
     intro wS hSw
     subst hSw
     exact fZ
    refine tkJ 2 (v := ?vq5_2) ?hq5_2 zq ?rq5_2
    case hq5_2 =>
     intro wS hSw
     subst hSw
     exact fZ
    refine tkJ 3 (v := ?vq5_3) ?hq5_3 zq ?rq5_3
    case hq5_3 =>
     intro wS hSw
     subst hSw
     exact fZ
    refine tkJ 4 (v := ?vq5_4) ?hq5_4 zq ?rq5_4
    case hq5_4 =>
     intro wS hSw
     subst hSw
     exact fZ
    refine tkJ 5 (v := ?vq5_5) ?hq5_5 zq ?rq5_5
    case hq5_5 =>
     intro wS hSw
     subst hSw
     exact fZ
    refine tkJ 6 (v := ?vq5_6) ?hq5_6 zq ?rq5_6
    case hq5_6 =>
     intro wS hSw
     subst hSw
     exact fZ
    refine tkJ 7 (v := ?vq5_7) ?hq5_7 zq ?rq5_7
    case hq5_7 =>
     intro wS hSw
     subst hSw
     exact fZ
    refine tkJ 8 (v := ?vq5_8) ?hq5_8 zq ?rq5_8
    case hq5_8 =>
     intro wS hSw
     subst hSw
     exact fZ
    refine tkJ 9 (v := ?vq5_9) ?hq5_9 zq ?rq5_9
    case hq5_9 =>
     intro wS hSw
     subst hSw
     exact fZ
    refine tkJ 10 (v := ?vq5_10) ?hq5_10 zq ?rq5_10
    case hq5_10 =>
     intro wS hSw
     subst hSw
     exact fZ
    refine skH 11 zq ?_
    refine skH 12 zq ?_
    refine skH 13 zq ?_
    refine skH 14 zq ?_
    refine skH 15 zq ?_
    refine skH 16 zq ?_
    refine skH 17 zq ?_
    refine skH 18 zq ?_
    refine skH 19 zq ?_
    refine skH 20 zq ?_
    refine skH 21 zq ?_
    refine skH 22 zq ?_
    refine skH 23 zq ?_
    refine skH 24 zq ?_
    refine skH 25 zq ?_
    refine skH 26 zq ?_
    refine skH 27 zq ?_
    refine skH 28 zq ?_
    refine skH 29 zq ?_
    refine skH 30 zq ?_
    refine skH 31 zq ?_
    refine skH 32 zq ?_
    refine skH 33 zq ?_
    refine skH 34 zq ?_
    refine skH 35 zq ?_
    refine skH 36 zq ?_
    refine skH 37 zq ?_
    refine tkJ 38 (v := ?vq5_38) ?hq5_38 zq ?rq5_38
    case hq5_38 =>
     intro wS hSw
     subst hSw
     exact fZ
    refine dZ ?_
    clear zq
    go_wp2_with fail
    go_ret
    exact ⟨by rw [uh HE]; rfl, uh HB⟩
   have HE := yh (uh HV _ ((uh HF).trans (if_pos e2)) (by decide))
   go_wp2_with fail
   go_ret
   exact ⟨by rw [uh HE]; rfl, uh HB0⟩
  obtain rfl : k = x.nodes.length := by omega
  rw [List.drop_length] at hF
  have hdl : decide ((x.nodes.length : Int) < (x.nodes.length : Int)) = false := by simp
  have HZ := yh (uh HV0 hF)
  have HB1 := yh hB
  clear hF hB HV HV0
  go_wp2_with fail
  clear hdl v2 v3
  go_loopw [6] (fun i wq => ∃ k : Nat, k ≤ x.chain.ids.length ∧ i = .int .i64 k ∧ r = (if (x.chain.ids.drop k).all (cj x) = true then 0 else 4) ∧ Below wr.heap.size wr wq) (fun i _ => x.chain.ids.length - (intOf i).toNat)
  case atStart => exact ⟨0, Nat.zero_le _, rfl, uh HZ, Below.refl _ _⟩
  case round =>
   obtain ⟨k, hk, rfl, hF, hB⟩ := hrel
   clear HZ
   have hX2 := (uh HX1).au hB
   have y3 := aj.at hX2 3 _ rfl
   simp only [ga, gb, gc] at y3
   have xl2 := hX2.lt
   have HB := yh ((uh HB1).trans (hB.mono (uh HB1).size))
   by_cases hlt : k < x.chain.ids.length
   ·
    obtain ⟨b, off, rfl, hbl⟩ := ab.aI (uh HI) (by omega)
    have c1 := ((uh HB).cell (p := ⟨b, off + k, none⟩) hbl).trans (dO (uh HI) hlt)
    have hdl : decide ((k : Int) < (x.chain.ids.length : Int)) = true := by simp; omega
    rw [List.drop_eq_getElem_cons hlt, List.all_cons] at hF
    have HL := yh (pU _ _ _ _ _ _ _ _ x x.chain.ids[k] xb wr hX2)
    have HF := yh hF
    have HBQ := yh hB
    clear hF hX2 hB
    generalize x.chain.ids[k] = z at *
    go_wp2_with fail
    refine (uh HL).mono ?_
    rintro e w5 ⟨rfl, h5⟩
    subst w5
    clear HL
    generalize cj x z = q at *
    cases q
    ·
     replace HF := yh ((uh HF).trans (if_neg (by simp)))
     go_wp2_with fail
     go_ret
     exact ⟨by rw [uh HF]; rfl, uh HB⟩
    rw [Bool.true_and] at HF
    go_wp2_with fail
    go_roundw
    case rel => exact ⟨k + 1, by omega, by go_num, uh HF, uh HBQ⟩
    case measure => simp [intOf]; omega
   obtain rfl : k = x.chain.ids.length := by omega
   rw [List.drop_length, List.all_nil, if_pos rfl] at hF
   have hdl : decide ((x.chain.ids.length : Int) < (x.chain.ids.length : Int)) = false := by simp
   have HF := yh hF
   clear hF hB hX2
   go_wp2_with fail
   go_ret
   exact ⟨by rw [uh HF]; rfl, uh HB⟩
theorem rk {w : World} {b off cap : Nat} {xs : List bJ} (h : (ab.sl ab.aJ).Reads w [.slice (some ⟨b, off, none⟩) xs.length cap] xs) {k : Nat} (hk : k < xs.length) : ∃ a d, rP w b (off + k * 10) xs[k] (.slice a xs[k].write.vec.length d) ∧ (ab.sl ab.int).Reads w [.slice a xs[k].write.vec.length d] xs[k].write.vec := by
 obtain ⟨row, hc, hr⟩ := ab.bm h hk
 obtain ⟨a, d, rfl, R⟩ := cx hr
 exact ⟨a, d, ⟨hc 0 (by decide), hc 1 (by decide), hc 2 (by decide), hc 3 (by decide), hc 4 (by decide), hc 5 (by decide), hc 6 (by decide), hc 7 (by decide), hc 8 (by decide), hc 9 (by decide)⟩, j7 R⟩
theorem qV {xs : List bJ} (h : 40 < xs.length) : aX xs = 2 := by rw [aX, if_pos h]
theorem sv {xs : List bJ} (h : ¬ 40 < xs.length) : aX xs = cb xs := by rw [aX, if_neg h]
theorem nX (v : Value) (xs : List bJ) (w : World) (h : (ab.sl ab.aJ).Reads w [v] xs) :
  Calls Tryz.prog 149 #[v] w fun e w' => e = .returned (.int .i64 (aX xs)) ∧ Below w.heap.size w w' := by
 obtain ⟨ao, cap, rfl⟩ := aE h
 have hbig := h.dK
 have H := yh h
 clear h
 by_cases h40 : 40 < xs.length
 ·
  have HF := yh (qV h40)
  have hd : decide ((40 : Int) < (xs.length : Int)) = true := by simp; omega
  go_enter Tryz.func149, Tryz.ntmps149
  go_wp2_with fail
  go_ret
  exact ⟨by rw [uh HF]; rfl, Below.refl _ _⟩
 have HF := yh (sv h40)
 have hd : decide ((40 : Int) < (xs.length : Int)) = false := by simp; omega
 go_enter Tryz.func149, Tryz.ntmps149
 go_wp2_with fail
 clear hd
 go_loopw [3] (fun i wr => ∃ k : Nat, k ≤ xs.length ∧ i = .int .i64 k ∧ (∀ j (hj : j < xs.length), j < k → aF xs[j] = 0) ∧ Below w.heap.size w wr) (fun i _ => xs.length - (intOf i).toNat)
 case atStart => exact ⟨0, Nat.zero_le _, rfl, fun j _ hj => by omega, Below.refl _ _⟩
 case round =>
  obtain ⟨k, hk, rfl, hz, hB⟩ := hrel
  by_cases hlt : k < xs.length
  ·
   obtain ⟨b, off, rfl, hbl⟩ := ab.aI (uh H) (by omega)
   obtain ⟨a, d, hM, R⟩ := rk ((uh H).ag hB) hlt
   have HL := yh (qL b (off + k * 10) a d xs[k] wr hM R)
   have hbr : b < wr.heap.size := Nat.lt_of_lt_of_le hbl hB.size
   have hdl : decide ((k : Int) < (xs.length : Int)) = true := by simp; omega
   have HB := yh hB
   have HAT : Hid (aF xs[k] ≠ 0 → cb xs = aF xs[k]) := fun q => ic hlt (fun j hj => hz j (by omega) hj) q
   have HZ2 : Hid (aF xs[k] = 0 → ∀ j (hj : j < xs.length), j < k + 1 → aF xs[j] = 0) := by
    intro h0 j hj hjk
    by_cases hjk2 : j < k
    ·
     exact hz j hj hjk2
    obtain rfl : j = k := by omega
    exact h0
   clear hz hM R hB
   generalize aF xs[k] = f at *
   go_wp2_with fail
   refine (uh HL).mono ?_
   rintro e w2 ⟨rfl, hb⟩
   have HB2 := yh ((uh HB).trans (hb.mono (uh HB).size))
   clear hb HL HB
   by_cases hf : f = 0
   ·
    have HZ3 := yh (uh HZ2 hf)
    subst hf
    clear HZ2 HAT
    go_wp2_with fail
    go_roundw
    case rel => exact ⟨k + 1, by omega, by go_num, uh HZ3, uh HB2⟩
    case measure => simp [intOf]; omega
   have HA := yh ((uh HF).trans (uh HAT hf))
   have hd : (f != 0) = true := by simpa using hf
   clear HZ2 HAT hf
   go_wp2_with fail
   go_ret
   exact ⟨by rw [uh HA]; rfl, uh HB2⟩
  obtain rfl : k = xs.length := by omega
  have hdl : decide ((xs.length : Int) < (xs.length : Int)) = false := by simp
  have HA := yh ((uh HF).trans (fR fun x hx => by obtain ⟨j, hj, rfl⟩ := List.getElem_of_mem hx; exact hz j hj hj))
  have HB := yh hB
  clear hB hz
  go_wp2_with fail
  go_ret
  exact ⟨by rw [uh HA]; rfl, uh HB⟩
theorem oY (a3 : Option Addr) (d3 : Nat) (a4 : Option Addr) (d4 : Nat) (a5 : Option Addr) (d5 : Nat) (a6 : Option Addr) (d6 : Nat) (x : ay) (xb : Nat) (w : World) (hX : aj 0 #[.int .i64 x.now, .int .i64 x.events, .int .i64 x.chain.af, .slice a3 x.chain.ids.length d3, .slice a4 x.nodes.length d4, .slice a5 x.msgs.length d5, .slice a6 x.ae.length d6] 37 w xb) (h : ab.aC.Reads w [.int .i64 x.now, .int .i64 x.events, .int .i64 x.chain.af, .slice a3 x.chain.ids.length d3, .slice a4 x.nodes.length d4, .slice a5 x.msgs.length d5, .slice a6 x.ae.length d6] x) :
  Calls Tryz.prog 85 #[.pointer (some ⟨xb, 0, none⟩)] w fun e w' => e = .returned (.int .i64 (aW x)) ∧ Below w.heap.size w w' := by
 have HX := yh hX
 have HR := yh h
 have HB := yh (Below.refl w.heap.size w)
 have HP : Hid (aW x = if (decide (0 ≤ x.now) && decide (x.now ≤ 9000)) = false ∨ (decide (0 ≤ x.events) && decide (x.events ≤ 9999)) = false then 3 else if aM x.chain ≠ 0 then aM x.chain
  else if x.nodes.length < 1 ∨ 5 < x.nodes.length then 2 else if bE x ≠ 0 then bE x else if aX x.msgs ≠ 0 then aX x.msgs
  else if 60 < x.ae.length then 2 else if (x.ae.drop 0).all (fk x) = true then 0 else 3) := by
  have e1 : (¬ (0 ≤ x.now ∧ x.now ≤ 9000) ∨ ¬ (0 ≤ x.events ∧ x.events ≤ 9999)) ↔ ((decide (0 ≤ x.now) && decide (x.now ≤ 9000)) = false ∨ (decide (0 ≤ x.events) && decide (x.events ≤ 9999)) = false) := by
   simp only [Bool.and_eq_false_iff, decide_eq_false_iff_not]
   omega
  show aW x = _
  unfold aW
  by_cases h1 : (decide (0 ≤ x.now) && decide (x.now ≤ 9000)) = false ∨ (decide (0 ≤ x.events) && decide (x.events ≤ 9999)) = false
  ·
   rw [if_pos (e1.2 h1), if_pos h1]
  rw [if_neg (fun q => h1 (e1.1 q)), if_neg h1]
  rfl
 clear h hX
 generalize aW x = r at *
 have z0 := aj.at (uh HX) 0 _ rfl
 have z1 := aj.at (uh HX) 1 _ rfl
 have z2 := aj.at (uh HX) 2 _ rfl
 have z3 := aj.at (uh HX) 3 _ rfl
 have z4 := aj.at (uh HX) 4 _ rfl
 have z5 := aj.at (uh HX) 5 _ rfl
 have z6 := aj.at (uh HX) 6 _ rfl
 simp only [ga, gb, gc] at z0 z1 z2 z3 z4 z5 z6
 have xl := (uh HX).lt
 go_enter Tryz.func85, Tryz.ntmps85
 go_wp2_with fail
 refine (eE x.now 0 9000 w).mono ?_
 rintro e w2 ⟨rfl, h2⟩
 subst w2
 cases d1 : (decide (0 ≤ x.now) && decide (x.now ≤ 9000))
 ·
  replace HP := yh ((uh HP).trans (if_pos (Or.inl d1)))
  clear d1
  go_wp2_with fail
  go_ret
  exact ⟨by rw [uh HP]; rfl, uh HB⟩
 go_wp2_with fail
 refine (eE x.events 0 9999 w).mono ?_
 rintro e w2 ⟨rfl, h2⟩
 subst w2
 cases d2 : (decide (0 ≤ x.events) && decide (x.events ≤ 9999))
 ·
  replace HP := yh ((uh HP).trans (if_pos (Or.inr d2)))
  clear d1 d2
  go_wp2_with fail
  go_ret
  exact ⟨by rw [uh HP]; rfl, uh HB⟩
 replace HP := yh ((uh HP).trans (if_neg (by rw [d1, d2]; simp)))
 clear d1 d2
 go_wp2_with fail
 obtain ⟨_, _, _, _, _, _, _, _, hq, RC, -, -, -⟩ := aG (uh HR)
 simp only [List.cons.injEq, Value.slice.injEq, and_true, true_and] at hq
 obtain ⟨⟨rfl, rfl⟩, ⟨rfl, rfl⟩, ⟨rfl, rfl⟩, rfl, rfl⟩ := hq
 obtain ⟨_, _, hq, RI⟩ := bP RC
 simp only [List.cons.injEq, Value.slice.injEq, and_true, true_and] at hq
 obtain ⟨rfl, rfl⟩ := hq
 refine (oL xb 2 _ _ x.chain w ⟨(uh HX).at 2 _ rfl, (uh HX).at 3 _ rfl⟩ RI).mono ?_
 rintro e w2 ⟨rfl, h2⟩
 subst w2
 clear RC RI
 by_cases d3 : aM x.chain ≠ 0
 ·
  have hd : (aM x.chain != 0) = true := by simpa using d3
  replace HP := yh ((uh HP).trans (if_pos d3))
  clear d3
  generalize aM x.chain = c at *
  go_wp2_with fail
  go_ret
  exact ⟨by rw [uh HP]; rfl, uh HB⟩
 replace HP := yh ((uh HP).trans (if_neg d3))
 have hd : aM x.chain = 0 := by simpa using d3
 clear d3
 rw [hd]
 clear hd
 have hbn := (show x.nodes.length ≤ 9223372036854775807 from by
  obtain ⟨_, _, _, _, _, _, _, _, hq, -, RN, -, -⟩ := aG (uh HR)
  exact RN.dK)
 by_cases d4 : x.nodes.length < 1 ∨ 5 < x.nodes.length
 ·
  replace HP := yh ((uh HP).trans (if_pos d4))
  by_cases d5 : x.nodes.length < 1
  ·
   have hd : decide ((x.nodes.length : Int) < 1) = true := by simp; omega
   clear d4 d5
   go_wp2_with fail
   go_ret
   exact ⟨by rw [uh HP]; rfl, uh HB⟩
  have hd : decide ((x.nodes.length : Int) < 1) = false := by simp; omega
  have hd2 : decide ((5 : Int) < (x.nodes.length : Int)) = true := by simp; omega
  clear d4 d5
  go_wp2_with fail
  go_ret
  exact ⟨by rw [uh HP]; rfl, uh HB⟩
 replace HP := yh ((uh HP).trans (if_neg d4))
 have hd : decide ((x.nodes.length : Int) < 1) = false := by simp; omega
 have hd2 : decide ((5 : Int) < (x.nodes.length : Int)) = false := by simp; omega
 have hn5 : x.nodes.length ≤ 5 := by omega
 clear d4
 go_wp2_with fail
 refine (oX _ _ _ _ _ _ _ _ x xb w (uh HX) (uh HR)).mono ?_
 rintro e w4 ⟨rfl, hb⟩
 clear xl hn5 z0 z1 z2 z3 z4 z5 z6
 replace HX := yh ((uh HX).au hb)
 replace HR := yh ((uh HR).ag hb)
 replace HB := bZ HB hb
 clear hb
 have z0 := aj.at (uh HX) 0 _ rfl
 have z1 := aj.at (uh HX) 1 _ rfl
 have z2 := aj.at (uh HX) 2 _ rfl
 have z3 := aj.at (uh HX) 3 _ rfl
 have z4 := aj.at (uh HX) 4 _ rfl
 have z5 := aj.at (uh HX) 5 _ rfl
 have z6 := aj.at (uh HX) 6 _ rfl
 simp only [ga, gb, gc] at z0 z1 z2 z3 z4 z5 z6
 have xl := (uh HX).lt
 by_cases d3 : bE x ≠ 0
 ·
  have hd : (bE x != 0) = true := by simpa using d3
  replace HP := yh ((uh HP).trans (if_pos d3))
  clear d3
  generalize bE x = c at *
  go_wp2_with fail
  go_ret
  exact ⟨by rw [uh HP]; rfl, uh HB⟩
 replace HP := yh ((uh HP).trans (if_neg d3))
 have hd : bE x = 0 := by simpa using d3
 clear d3
 rw [hd]
 clear hd
 go_wp2_with fail
 obtain ⟨_, _, _, _, _, _, _, _, hq, -, -, RM, -⟩ := aG (uh HR)
 simp only [List.cons.injEq, Value.slice.injEq, and_true, true_and] at hq
 obtain ⟨⟨rfl, rfl⟩, ⟨rfl, rfl⟩, ⟨rfl, rfl⟩, rfl, rfl⟩ := hq
 refine (nX _ x.msgs w4 RM).mono ?_
 rintro e w5 ⟨rfl, hb⟩
 clear RM xl z0 z1 z2 z3 z4 z5 z6
 replace HX := yh ((uh HX).au hb)
 replace HR := yh ((uh HR).ag hb)
 replace HB := bZ HB hb
 clear hb
 have z0 := aj.at (uh HX) 0 _ rfl
 have z1 := aj.at (uh HX) 1 _ rfl
 have z2 := aj.at (uh HX) 2 _ rfl
 have z3 := aj.at (uh HX) 3 _ rfl
 have z4 := aj.at (uh HX) 4 _ rfl
 have z5 := aj.at (uh HX) 5 _ rfl
 have z6 := aj.at (uh HX) 6 _ rfl
 simp only [ga, gb, gc] at z0 z1 z2 z3 z4 z5 z6
 have xl := (uh HX).lt
 by_cases d3 : aX x.msgs ≠ 0
 ·
  have hd : (aX x.msgs != 0) = true := by simpa using d3
  replace HP := yh ((uh HP).trans (if_pos d3))
  clear d3
  generalize aX x.msgs = c at *
  go_wp2_with fail
  go_ret
  exact ⟨by rw [uh HP]; rfl, uh HB⟩
 replace HP := yh ((uh HP).trans (if_neg d3))
 have hd : aX x.msgs = 0 := by simpa using d3
 clear d3
 rw [hd]
 clear hd
 obtain ⟨_, _, _, _, _, _, _, _, hq, -, -, -, RE⟩ := aG (uh HR)
 simp only [List.cons.injEq, Value.slice.injEq, and_true, true_and] at hq
 obtain ⟨⟨rfl, rfl⟩, ⟨rfl, rfl⟩, ⟨rfl, rfl⟩, rfl, rfl⟩ := hq
 have HE := yh RE
 have hbig := RE.dK
 clear RE
 by_cases d4 : 60 < x.ae.length
 ·
  replace HP := yh ((uh HP).trans (if_pos d4))
  have hd : decide ((60 : Int) < (x.ae.length : Int)) = true := by simp; omega
  clear d4
  go_wp2_with fail
  go_ret
  exact ⟨by rw [uh HP]; rfl, uh HB⟩
 replace HP := yh ((uh HP).trans (if_neg d4))
 have hd : decide ((60 : Int) < (x.ae.length : Int)) = false := by simp; omega
 clear d4
 go_wp2_with fail
 clear z0 z1 z2 z3 z4 z5 z6 xl hd
 go_loopw [6] (fun i wr => ∃ k : Nat, k ≤ x.ae.length ∧ i = .int .i64 k ∧ r = (if (x.ae.drop k).all (fk x) = true then 0 else 3) ∧ Below w5.heap.size w5 wr) (fun i _ => x.ae.length - (intOf i).toNat)
 case atStart => exact ⟨0, Nat.zero_le _, rfl, uh HP, Below.refl _ _⟩
 case round =>
  obtain ⟨k, hk, rfl, hF, hB⟩ := hrel
  clear HP
  have hX2 := (uh HX).au hB
  have y6 := aj.at hX2 6 _ rfl
  simp only [ga, gb, gc] at y6
  have xl := hX2.lt
  have HB3 := yh ((uh HB).trans (hB.mono (uh HB).size))
  by_cases hlt : k < x.ae.length
  ·
   obtain ⟨b, off, rfl, hbl⟩ := ab.aI (uh HE) (by omega)
   obtain ⟨row, hcl, hr⟩ := ab.bm (uh HE) hlt
   rw [List.drop_eq_getElem_cons hlt, List.all_cons] at hF
   have hdl : decide ((k : Int) < (x.ae.length : Int)) = true := by simp; omega
   have hrl := hr.len
   obtain ⟨aq, dq, av, dv, ah, dh, rfl, -⟩ := bB hr
   have hE : dU #[.int .i64 (x.ae[k]).kind, .int .i64 (x.ae[k]).aa, .int .i64 (x.ae[k]).seq, .int .i64 (x.ae[k]).id, .slice aq (x.ae[k]).query.length dq, .int .i64 (x.ae[k]).k, .int .i64 (x.ae[k]).start, .int .i64 (x.ae[k]).fin, .int .i64 (x.ae[k]).place, .slice av (x.ae[k]).vec.length dv, .slice ah (x.ae[k]).aN.length dh] wr b (off + k * 11) := dU.ofRow (A := ab.ar) (k := k) (fun m hm => (hB.cell (p := ⟨b, off + k * 11 + m, none⟩) hbl).trans (hcl m hm)) hrl (Nat.lt_of_lt_of_le hbl hB.size)
   have HL := yh (oj _ _ _ _ _ _ _ _ _ _ _ _ _ _ x _ xb b (off + k * 11) wr hX2 hE)
   have HF := yh hF
   have HBQ := yh hB
   clear hF hX2 hB hr hrl hcl hE
   generalize x.ae[k] = z at *
   go_wp2_with fail
   refine (uh HL).mono ?_
   rintro e w5 ⟨rfl, hb⟩
   replace HB3 := bZ HB3 hb
   replace HBQ := bZ HBQ hb
   clear HL hb y6
   generalize fk x z = q at *
   cases q
   ·
    replace HF := yh ((uh HF).trans (if_neg (by simp)))
    go_wp2_with fail
    go_ret
    exact ⟨by rw [uh HF]; rfl, uh HB3⟩
   rw [Bool.true_and] at HF
   go_wp2_with fail
   go_roundw
   case rel => exact ⟨k + 1, by omega, by go_num, uh HF, uh HBQ⟩
   case measure => simp [intOf]; omega
  obtain rfl : k = x.ae.length := by omega
  rw [List.drop_length, List.all_nil, if_pos rfl] at hF
  have hdl : decide ((x.ae.length : Int) < (x.ae.length : Int)) = false := by simp
  have HF := yh hF
  clear hF hB hX2
  go_wp2_with fail
  go_ret
  exact ⟨by rw [uh HF]; rfl, uh HB3⟩
theorem cS (n : Int) (w : World) :
  Calls Tryz.prog 225 #[.int .i64 n] w fun e w' => e = .returned (.bool (decide (1 ≤ n) && decide (n ≤ 5))) ∧ w' = w := by
 by_cases h1 : 1 ≤ n
 ·
  have d1 : decide (1 ≤ n) = true := by simpa using h1
  rw [d1]
  cases d2 : decide (n ≤ 5) <;>
  ·
   go_enter Tryz.func225, Tryz.ntmps225
   go_wp2_with fail
   go_ret
   exact ⟨rfl, rfl⟩
 have d1 : decide (1 ≤ n) = false := by simpa using h1
 rw [d1]
 go_enter Tryz.func225, Tryz.ntmps225
 go_wp2_with fail
 go_ret
 exact ⟨rfl, rfl⟩
theorem cT (n : Int) (w : World) :
  Calls Tryz.prog 177 #[.int .i64 n] w fun e w' => e = .returned (.bool (decide (1 ≤ n) && decide (n ≤ 999))) ∧ w' = w := by
 by_cases h1 : 1 ≤ n
 ·
  have d1 : decide (1 ≤ n) = true := by simpa using h1
  rw [d1]
  cases d2 : decide (n ≤ 999) <;>
  ·
   go_enter Tryz.func177, Tryz.ntmps177
   go_wp2_with fail
   go_ret
   exact ⟨rfl, rfl⟩
 have d1 : decide (1 ≤ n) = false := by simpa using h1
 rw [d1]
 go_enter Tryz.func177, Tryz.ntmps177
 go_wp2_with fail
 go_ret
 exact ⟨rfl, rfl⟩
theorem mF {w : World} {b off cap : Nat} {zs : List Int} (h : (ab.sl ab.int).Reads w [.slice (some ⟨b, off, none⟩) zs.length cap] zs) (m n c : Nat) (hm : m + n ≤ zs.length) (hc : n ≤ c) :
  (ab.sl ab.int).Reads w [.slice (some ⟨b, off + m, none⟩) n c] ((zs.drop m).take n) := by
 have hi := ab.bn h
 have hbig := h.dK
 obtain ⟨ao, cp, e, hwf, hcs⟩ := hi
 have hlen : ((zs.drop m).take n).length = n := by simp; omega
 refine ab.jh ?_ (fun ao' cap' e' => ?_) (by rw [hlen]; omega)
 ·
  refine ⟨_, c, by rw [hlen], fun z hz => hwf z (List.mem_of_mem_drop (List.mem_of_mem_take hz)), fun hp => ⟨b, off + m, rfl, fun j hj => ?_⟩⟩
  rw [hlen] at hp hj
  obtain ⟨b', off', hao, hc1⟩ := hcs (by omega)
  simp only [Value.slice.injEq] at e
  obtain ⟨rfl, -, -⟩ := e
  simp only [Option.some.injEq, Addr.mk.injEq, and_true] at hao
  obtain ⟨rfl, rfl⟩ := hao
  rw [Nat.add_assoc, hc1 (m + j) (by omega)]
  simp only [List.getD]
  rw [List.getElem?_take, if_pos hj, List.getElem?_drop]
 simp only [Value.slice.injEq] at e'
 rw [hlen]
 omega
theorem m3 {w : World} {ao : Option Addr} {n cap : Nat} {zs : List Int} (h : (ab.sl ab.int).Reads w [.slice ao n cap] zs) (k : Nat) (hk : k ≤ zs.length) :
  (ab.sl ab.int).Reads w [.slice ao k cap] (zs.take k) := by
 have hc := h.cap
 by_cases h0 : k = 0
 ·
  subst h0
  rw [List.take_zero]
  exact ab.jh ⟨ao, cap, rfl, by simp, fun hp => by simp at hp⟩ (fun _ _ _ => by simp) (by simp)
 have hi := ab.bn h
 obtain ⟨ao', cp, e, hwf, hcs⟩ := hi
 obtain ⟨b', off', hao, hc1⟩ := hcs (by omega)
 simp only [Value.slice.injEq] at e
 obtain ⟨rfl, rfl, rfl⟩ := e
 subst hao
 have := mF h 0 k cap (by omega) (by omega)
 simpa using this
theorem gp (n : Int) (w : World) :
  Calls Tryz.prog 179 #[.int .i64 n] w fun e w' => e = .returned (.bool (decide (1 ≤ n) && decide (n ≤ 5))) ∧ w' = w := by
 by_cases h1 : 1 ≤ n
 ·
  have d1 : decide (1 ≤ n) = true := by simpa using h1
  rw [d1]
  cases d2 : decide (n ≤ 5) <;>
  ·
   go_enter Tryz.func179, Tryz.ntmps179
   go_wp2_with fail
   go_ret
   exact ⟨rfl, rfl⟩
 have d1 : decide (1 ≤ n) = false := by simpa using h1
 rw [d1]
 go_enter Tryz.func179, Tryz.ntmps179
 go_wp2_with fail
 go_ret
 exact ⟨rfl, rfl⟩
theorem si (v : Value) (ids : List Int) (id : Int) (w : World) (R : (ab.sl ab.int).Reads w [v] ids) :
  Calls Tryz.prog 256 #[v, .int .i64 id] w fun e w' => e = .returned (.int .i64 (bL ids id)) ∧ w' = w := by
 obtain ⟨ao, cap, rfl⟩ := aE R
 have hbig := R.dK
 have H := yh R
 clear R
 go_enter Tryz.func256, Tryz.ntmps256
 go_wp2_with fail
 go_loop [8] (fun i => ∃ k : Nat, k ≤ ids.length ∧ i = .int .i64 k ∧ (∀ j (hj : j < ids.length), j < k → ids[j] ≠ id)) (fun i => ids.length - (intOf i).toNat)
 case atStart => exact ⟨0, Nat.zero_le _, rfl, fun j _ h => by omega⟩
 case round =>
  obtain ⟨k, hk, rfl, hz⟩ := hrel
  by_cases hlt : k < ids.length
  ·
   obtain ⟨b2, off, rfl, -⟩ := ab.aI (uh H) (by omega)
   have c1 := dO (uh H) hlt
   cases hq : (id == ids[k])
   ·
    have HZ : Hid (∀ j (hj : j < ids.length), j < k + 1 → ids[j] ≠ id) := fun j hj hjk => by
     by_cases h2 : j < k
     ·
      exact hz j hj h2
     obtain rfl : j = k := by omega
     intro h3
     rw [h3] at hq
     simp at hq
    clear hz
    generalize ids[k] = z at *
    go_wp2_with fail
    go_round
    case rel => exact ⟨k + 1, by omega, by go_num, uh HZ⟩
    case measure => simp [intOf]; omega
   have HP := yh (gJ hlt (beq_iff_eq.1 hq).symm (fun j hj => hz j (by omega) hj))
   clear hz
   generalize ids[k] = z at *
   go_wp2_with fail
   go_ret
   exact ⟨by rw [uh HP]; rfl, rfl⟩
  obtain rfl : k = ids.length := by omega
  have HP := yh (hD (id := id) (fun j hj => hz j hj hj))
  clear hz
  go_wp2_with fail
  go_ret
  exact ⟨by rw [uh HP]; rfl, rfl⟩
theorem j9 (v : Value) (ids : List Int) (id : Int) (w : World) (R : (ab.sl ab.int).Reads w [v] ids) :
  Calls Tryz.prog 226 #[v, .int .i64 id] w fun e w' => e = .returned (.bool (decide (0 ≤ bL ids id))) ∧ w' = w := by
 have HL := yh (si v ids id w R)
 obtain ⟨ao, cap, rfl⟩ := aE R
 generalize bL ids id = n at *
 clear R
 go_enter Tryz.func226, Tryz.ntmps226
 go_wp2_with fail
 refine (uh HL).mono ?_
 rintro e w1 ⟨rfl, h1⟩
 subst w1
 clear HL
 go_wp2_with fail
 go_ret
 exact ⟨rfl, rfl⟩
def dx (ids : List Int) : Int := if 1 ≤ ids.length ∧ ids.length ≤ 5 then eZ [] ids else 2
theorem iM {ids : List Int} (h : (decide (1 ≤ (ids.length : Int)) && decide ((ids.length : Int) ≤ 5)) = false) : dx ids = 2 := by
 rw [dx, if_neg]
 intro h2
 rw [decide_eq_true (by omega), decide_eq_true (by omega)] at h
 simp at h
theorem jB {ids : List Int} (h : (decide (1 ≤ (ids.length : Int)) && decide ((ids.length : Int) ≤ 5)) = true) : dx ids = eZ (ids.take 0) (ids.drop 0) := by
 rw [dx, if_pos]
 ·
  simp
 simp at h
 omega
theorem oP (ids : List Int) (z : Int) : decide (0 ≤ bL ids z) = true ↔ z ∈ ids := by
 have h := iE ids z
 rw [decide_eq_true_iff]
 constructor
 ·
  intro h1
  refine Decidable.byContradiction fun h2 => ?_
  have := h.2 h2
  omega
 intro h1
 refine Decidable.byContradiction fun h2 => ?_
 exact h.1 (by omega) h1
theorem oJ (v : Value) (ids : List Int) (w : World) (R : (ab.sl ab.int).Reads w [v] ids) :
  Calls Tryz.prog 178 #[v] w fun e w' => e = .returned (.int .i64 (dx ids)) ∧ w' = w := by
 obtain ⟨ao, cap, rfl⟩ := aE R
 have hbig := R.dK
 have hcap := R.cap
 have H := yh R
 clear R
 go_enter Tryz.func178, Tryz.ntmps178
 go_wp2_with fail
 refine (gp (ids.length : Int) w).mono ?_
 rintro e w1 ⟨rfl, h1⟩
 subst w1
 cases d1 : (decide (1 ≤ (ids.length : Int)) && decide ((ids.length : Int) ≤ 5))
 ·
  have HF := yh (iM d1)
  clear d1
  go_wp2_with fail
  go_ret
  exact ⟨by rw [uh HF]; rfl, rfl⟩
 have HF := yh (jB d1)
 clear d1
 go_wp2_with fail
 go_loop [11] (fun i => ∃ k : Nat, k ≤ ids.length ∧ i = .int .i64 k ∧ dx ids = eZ (ids.take k) (ids.drop k)) (fun i => ids.length - (intOf i).toNat)
 case atStart => exact ⟨0, Nat.zero_le _, rfl, uh HF⟩
 case round =>
  obtain ⟨k, hk, rfl, hz⟩ := hrel
  clear HF
  by_cases hlt : k < ids.length
  ·
   rw [kb ids k hlt] at hz
   obtain ⟨b2, off, rfl, -⟩ := ab.aI (uh H) (by omega)
   have c1 := dO (uh H) hlt
   have HC := yh (j9 (.slice (some ⟨b2, off, none⟩) k cap) (ids.take k) ids[k] w (m3 (uh H) k (by omega)))
   have HM := yh (oP (ids.take k) ids[k])
   have hdl : decide ((k : Int) < (ids.length : Int)) = true := by simp; omega
   have HZ := yh hz
   have hkc : k ≤ cap := by omega
   clear hz
   generalize ids[k] = z at *
   generalize ids.take k = zk at *
   go_wp2_with fail
   refine (cS z w).mono ?_
   rintro e w1 ⟨rfl, h1⟩
   subst w1
   cases d2 : (decide (1 ≤ z) && decide (z ≤ 5))
   ·
    have hz := uh HZ
    rw [if_neg (by intro h; simp at d2; omega)] at hz
    have HF := yh hz
    clear hz HZ d2
    go_wp2_with fail
    go_ret
    exact ⟨by rw [uh HF]; rfl, rfl⟩
   have hz := uh HZ
   rw [if_pos (by simpa using d2)] at hz
   clear HZ d2
   have HZ := yh hz
   clear hz
   go_wp2_with fail
   refine (uh HC).mono ?_
   rintro e w1 ⟨rfl, h1⟩
   subst w1
   cases d3 : decide (0 ≤ bL zk z)
   ·
    have hz := uh HZ
    rw [if_neg (fun hm => by rw [(uh HM).2 hm] at d3; simp at d3)] at hz
    have HF := yh hz
    clear hz HZ d3 HM HC
    go_wp2_with fail
    go_round
    case rel => exact ⟨k + 1, by omega, by go_num, uh HF⟩
    case measure => simp [intOf]; omega
   have hz := uh HZ
   rw [if_pos ((uh HM).1 d3)] at hz
   have HF := yh hz
   clear hz HZ d3 HM HC
   go_wp2_with fail
   go_ret
   exact ⟨by rw [uh HF]; rfl, rfl⟩
  obtain rfl : k = ids.length := by omega
  rw [ml] at hz
  have HF := yh hz
  clear hz
  go_wp2_with fail
  go_ret
  exact ⟨by rw [uh HF]; rfl, rfl⟩
theorem rj {x : bH} (h : (decide (1 ≤ x.af) && decide (x.af ≤ 999)) = false) : aM x = 3 := by rw [aM, if_neg (by simp at h; omega)]
theorem qU {x : bH} (h : (decide (1 ≤ x.af) && decide (x.af ≤ 999)) = true) : aM x = dx x.ids := by rw [aM, if_pos (by simp at h; omega), dx]
theorem iV (cs : List Value) (x : bH) (w : World) (h : ab.aD.Reads w cs x) :
  Calls Tryz.prog 114 #[.agg cs.toArray] w fun e w' => e = .returned (.int .i64 (aM x)) ∧ Below w.heap.size w w' := by
 obtain ⟨a, d, rfl, R⟩ := bP h
 have nb : Below w.heap.size w (w.alloc (.cells #[.int .i64 x.af, .slice a x.ids.length d] 32)) := (Below.refl _ _).alloc (Nat.le_refl _) _
 have HR := yh (R.ag nb)
 have HB := yh nb
 have HX : Hid (aj 0 #[.int .i64 x.af, .slice a x.ids.length d] 32 (w.alloc (.cells #[.int .i64 x.af, .slice a x.ids.length d] 32)) w.heap.size) := aH (Nat.zero_le _)
 clear R h nb
 go_enter Tryz.func114, Tryz.ntmps114
 go_upto_region 1 with fail
 generalize w.alloc (.cells #[.int .i64 x.af, .slice a x.ids.length d] 32) = W at *
 have z0 : W.cell? ⟨w.heap.size, 0, none⟩ = some (.int .i64 x.af) := (uh HX).at 0 _ rfl
 have z1 : W.cell? ⟨w.heap.size, 1, none⟩ = some (.slice a x.ids.length d) := (uh HX).at 1 _ rfl
 clear HX
 cases d1 : (decide (1 ≤ x.af) && decide (x.af ≤ 999))
 ·
  have HF := yh (rj d1)
  have L := yh (cT x.af W)
  rw [d1] at L
  clear d1
  go_wp2_with fail
  refine (uh L).mono ?_
  rintro e w1 ⟨rfl, h1⟩
  subst w1
  clear L
  go_wp2_with fail
  go_ret
  exact ⟨by rw [uh HF]; rfl, uh HB⟩
 have HF := yh (qU d1)
 have L := yh (cT x.af W)
 rw [d1] at L
 clear d1
 go_wp2_with fail
 refine (uh L).mono ?_
 rintro e w1 ⟨rfl, h1⟩
 subst w1
 clear L
 have L := yh (oJ _ x.ids _ (uh HR))
 go_wp2_with fail
 refine (uh L).mono ?_
 rintro e w1 ⟨rfl, h1⟩
 subst w1
 clear L
 go_wp2_with fail
 go_ret
 exact ⟨by rw [uh HF]; rfl, uh HB⟩
theorem ea (n m : Int) (w : World) :
  Calls Tryz.prog 113 #[.int .i64 n, .int .i64 m] w fun e w' => e = .returned (.bool (decide (0 ≤ n) && decide (n ≤ m))) ∧ w' = w := by
 by_cases h1 : 0 ≤ n
 ·
  have d1 : decide (0 ≤ n) = true := by simpa using h1
  rw [d1]
  cases d2 : decide (n ≤ m) <;>
  ·
   go_enter Tryz.func113, Tryz.ntmps113
   go_wp2_with fail
   go_ret
   exact ⟨rfl, rfl⟩
 have d1 : decide (0 ≤ n) = false := by simpa using h1
 rw [d1]
 go_enter Tryz.func113, Tryz.ntmps113
 go_wp2_with fail
 go_ret
 exact ⟨rfl, rfl⟩
end Go.Proofs.YtecagllmonckgaaGreat

namespace Go.Proofs.YtecagllmonckgaaGreat
open Go.RowKit Go.Maps
def tick (s q : Int) : Value := .agg #[.int .i64 s, .int .i64 q]
theorem pA : laidOutB Tryz.prog = true := by kernel_rfl
theorem nJ : (117 : TypeId) < Tryz.prog.types.size := of_decide_eq_true (by kernel_rfl)
theorem qt : (match Tryz.prog.underlying 117 with | some (.array _ _) | some (.struct _) => true | _ => false) = true := by kernel_rfl
theorem gF : Keyed Tryz.prog 117 := Keyed.of_law (deep_law_laid pA (m := 2) (by omega) nJ (by kernel_rfl) qt)
theorem iz {s q : Int} (hs : (Lit.int .i64 s).wf = true) (hq : (Lit.int .i64 q).wf = true) : keyOf Tryz.prog 117 (tick s q) = some (.string (keyBytes [.int .i64 s, .int .i64 q])) := by
 have hk : Tryz.prog.keyType 117 = true := by kernel_rfl
 have hc : Tryz.prog.cellsOf 117 = 2 := by kernel_rfl
 have hc1 : Tryz.prog.cellsOf 2 = 1 := by kernel_rfl
 have hf : (tick s q).formed Tryz.prog 117 = true := by simp [tick, Value.formed, Tryz.underlying117, hc]
 obtain ⟨m, hm⟩ : ∃ m, Tryz.prog.types.size = m + 1 := ⟨_, (Nat.succ_pred_eq_of_pos (Nat.lt_of_le_of_lt (Nat.zero_le _) nJ)).symm⟩
 unfold keyOf
 simp only [Tryz.underlying117]
 rw [if_pos (by rw [hk, hf]; rfl), hm]
 unfold Program.keyLits
 simp only [Tryz.underlying117, tick, Value.cells]
 simp [hc, hc1, Program.keyLits, Tryz.underlying2, hs, hq]
theorem qx (w : World) : (zeroValue 2).run Tryz.prog w = .ok (.int .i64 0) w := by kernel_rfl
def dD (w : World) (b n : Nat) (f : Int → Int → Nat) : Prop := ∃ D : DataW Unit, w.ownsMap Tryz.prog 117 (plainElem Tryz.prog 2) b n D ∧
 ∀ s q, (Lit.int .i64 s).wf = true → (Lit.int .i64 q).wf = true → Maps.has D (.string (keyBytes [.int .i64 s, .int .i64 q])) = decide (f s q ≠ 0) ∧ D.atKey (.string (keyBytes [.int .i64 s, .int .i64 q])) (.lit (.int .i64 0)) = .lit (.int .i64 (f s q))
theorem dD.ext {S : Nat → Prop} {w w' : World} {b n : Nat} {f : Int → Int → Nat} (h : dD w b n f) (e : Ext S w w') (hb : ¬ S b) : dD w' b n f := by
 obtain ⟨D, h, r⟩ := h
 have hlt := World.ownsMap.lt h
 obtain ⟨es, clock, hb', r'⟩ := h
 exact ⟨D, ⟨es, clock, (e.block b hlt hb).trans hb', r'⟩, r⟩
theorem dD.lt {w : World} {b n : Nat} {f : Int → Int → Nat} (h : dD w b n f) : b < w.heap.size := by
 obtain ⟨D, h, -⟩ := h
 exact World.ownsMap.lt h
theorem dD.mono {w : World} {b n n' : Nat} {f : Int → Int → Nat} (h : dD w b n f) (hn : n ≤ n') : dD w b n' f := by
 obtain ⟨D, h, r⟩ := h
 exact ⟨D, World.ownsMap.mono h hn, r⟩
theorem dD.congr {w : World} {b n : Nat} {f g : Int → Int → Nat} (h : dD w b n f) (e : ∀ s q, f s q = g s q) : dD w b n g := by
 obtain ⟨D, h, r⟩ := h
 exact ⟨D, h, fun s q hs hq => by rw [← e]; exact r s q hs hq⟩
theorem dD.look {w : World} {b n : Nat} {f : Int → Int → Nat} (h : dD w b n f) {s q : Int} (hs : (Lit.int .i64 s).wf = true) (hq : (Lit.int .i64 q).wf = true) :
  (Instr.lookup 234 (.map (some b)) (tick s q) true).run Tryz.prog w = .ok (.tuple #[.int .i64 (f s q), .bool (decide (f s q ≠ 0))]) w := by
 obtain ⟨D, h, r⟩ := h
 obtain ⟨r1, r2⟩ := r s q hs hq
 obtain ⟨v, ps, hrun, hv⟩ := World.ownsMap.look_ok h gF Tryz.underlying234 (qx w) (plainElem_int Tryz.underlying2 (by decide)) (iz hs hq)
 rw [r2] at hv
 obtain ⟨c, rfl, hc, -⟩ := plainElem_int_inv Tryz.underlying2 hv
 rw [r1] at hrun
 simp only [Prod.mk.injEq, DataW.lit.injEq, Lit.int.injEq, true_and] at hc
 rw [hc.1]
 exact hrun
theorem dD.put {w : World} {b n : Nat} {f : Int → Int → Nat} (h : dD w b n f) (hn : n < 100000) {s q : Int} (hs : (Lit.int .i64 s).wf = true) (hq : (Lit.int .i64 q).wf = true) {m : Nat} (hm : m ≠ 0) (hw : (Lit.int .i64 (m : Int)).wf = true) :
  ∃ w', (Instr.mapUpdate 234 (.map (some b)) (tick s q) (.int .i64 m)).run Tryz.prog w = .ok () w' ∧ dD w' b (n + 1) (fun s' q' => if s' = s ∧ q' = q then m else f s' q') ∧ Ext (fun c => c = b) w w' := by
 obtain ⟨D, h, r⟩ := h
 obtain ⟨w', h1, h2, h3⟩ := World.ownsMap.store h gF Tryz.underlying234 (by unfold maxLen; omega) (iz hs hq) (plainElem_int Tryz.underlying2 hw)
 refine ⟨w', h1, ⟨_, h2, fun s' q' hs' hq' => ?_⟩, ?_⟩
 ·
  have hk : WideAt.IsKeyLit (.string (keyBytes [.int .i64 s, .int .i64 q])) := trivial
  by_cases e : s' = s ∧ q' = q
  ·
   obtain ⟨rfl, rfl⟩ := e
   rw [Maps.has_put_same (World.ownsMap.isMap h) hk, Maps.atKey_put_same (World.ownsMap.isMap h) hk]
   simp [hm]
  have hne : Lit.string (keyBytes [.int .i64 s', .int .i64 q']) ≠ Lit.string (keyBytes [.int .i64 s, .int .i64 q]) := by
   intro e2
   have k1 := iz hs' hq'
   rw [e2] at k1
   have k2 := gF.inj k1 (iz hs hq)
   simp only [tick, Value.agg.injEq, Array.mk.injEq, List.cons.injEq, Value.int.injEq, true_and, and_true] at k2
   exact e k2
  rw [Maps.has_put_other hne, Maps.atKey_put_other hne]
  simp only [if_neg e]
  exact r s' q' hs' hq'
 have g := h3.grown
 obtain ⟨es, clock, es', clock', hb, rfl⟩ := h3
 exact ⟨rfl, rfl, rfl, by simp [ChangeMaps.setBlock], fun k hk hn => g.block k hk (fun e => hn (by simpa using e))⟩
theorem oB (w : World) : dD (w.alloc (.map #[] 0)) w.heap.size 0 (fun _ _ => 0) := ⟨.map [], World.ownsMap_made w _ _ _, fun _ _ _ _ => ⟨rfl, rfl⟩⟩
end Go.Proofs.YtecagllmonckgaaGreat

namespace Go.Proofs.YtecagllmonckgaaGreat
open Go.RowKit
def er (v : Value) (mb : Nat) (f : Int → Int) : Array Value := #[v, .map (some mb), .int .i64 (f 0), .int .i64 (f 1), .int .i64 (f 2), .int .i64 (f 3), .int .i64 (f 4), .int .i64 (f 5), .int .i64 (f 6), .int .i64 (f 7), .int .i64 (f 8), .int .i64 (f 9)]
theorem fz (v : Value) (mb : Nat) (f : Int → Int) (i : Nat) (h : i < 10) : (er v mb f)[2 + i]? = some (.int .i64 (f i)) := by
 match i, h with
 | 0, _ => rfl
 | 1, _ => rfl
 | 2, _ => rfl
 | 3, _ => rfl
 | 4, _ => rfl
 | 5, _ => rfl
 | 6, _ => rfl
 | 7, _ => rfl
 | 8, _ => rfl
 | 9, _ => rfl
theorem nh (v : Value) (mb : Nat) (f : Int → Int) (i : Nat) (h : i < 10) (z : Int) : (er v mb f).setIfInBounds (2 + i) (.int .i64 z) = er v mb (fun j => if j = i then z else f j) := by
 match i, h with
 | 0, _ => rfl
 | 1, _ => rfl
 | 2, _ => rfl
 | 3, _ => rfl
 | 4, _ => rfl
 | 5, _ => rfl
 | 6, _ => rfl
 | 7, _ => rfl
 | 8, _ => rfl
 | 9, _ => rfl
theorem ct {w w' : World} {b : Nat} (h : w'.heap[b]? = w.heap[b]?) (o : Nat) : w'.frozen? ⟨b, o, none⟩ = w.frozen? ⟨b, o, none⟩ := by
 unfold World.frozen?
 simp only [h]
structure cY (w : World) (p mb N n : Nat) (ws : List aA) (f : Int → Int) (g : Int → Int → Nat) (v : Value) (rows : List (List Value)) (bls : List (List Nat)) : Prop where
 lt : mb < p
 box : aj 0 (er v mb f) 237 w p
 grow : bN ab.ai w (p + 1) 142 v rows ws bls
 sub : ∀ b ∈ bls.flatten, p + 1 ≤ b ∧ ∀ o, w.frozen? ⟨b, o, none⟩ = false
 nd : bls.flatten.Nodup
 seen : dD w mb n g
 sF : ∀ b ∈ bls.flatten, b < N
 oz : ∀ b, v.ownBlock = some b → b < N
 pN : p < N
namespace cY
variable {w w' : World} {p mb N n : Nat} {ws : List aA} {f : Int → Int} {g : Int → Int → Nat} {v : Value} {rows : List (List Value)} {bls : List (List Nat)}
theorem kept (h : cY w p mb N n ws f g v rows bls) {S : Nat → Prop} (e : Ext S w w') (hS : ∀ c, mb ≤ c → c < w.heap.size → ¬ S c) : cY w' p mb N n ws f g v rows bls := by
 have hs : ∀ b ∈ bls.flatten, w'.heap[b]? = w.heap[b]? := fun b hb => e.block b (h.grow.sub_lt b hb) (hS b (by have := (h.sub b hb).1; have := h.lt; omega) (h.grow.sub_lt b hb))
 refine ⟨h.lt, h.box.ext e (hS p (Nat.le_of_lt h.lt) h.box.lt), h.grow.kept ?_ hs, fun b hm => ⟨(h.sub b hm).1, fun o => (ct (hs b hm) o).trans ((h.sub b hm).2 o)⟩, h.nd, h.seen.ext e (hS mb (Nat.le_refl _) h.seen.lt), h.sF, h.oz, h.pN⟩
 obtain ⟨h1, h2⟩ := h.grow.own
 refine ⟨h1, ?_⟩
 rcases h2 with h2 | ⟨gb, cap, cur, hv, hg, hh, r⟩
 ·
  exact Or.inl h2
 exact Or.inr ⟨gb, cap, cur, hv, hg, (e.block gb (lt_of_block hh) (hS gb (by have := h.lt; omega) (lt_of_block hh))).trans hh, r⟩
theorem ag (h : cY w p mb N n ws f g v rows bls) (hb : Below w.heap.size w w') : cY w' p mb N n ws f g v rows bls := h.kept (aL hb (fun _ => False)) (fun _ _ _ e => e)
theorem raise (h : cY w p mb N n ws f g v rows bls) {N' : Nat} (hN : N ≤ N') : cY w p mb N' n ws f g v rows bls :=
 ⟨h.lt, h.box, h.grow, h.sub, h.nd, h.seen, fun b hb => Nat.lt_of_lt_of_le (h.sF b hb) hN, fun b hb => Nat.lt_of_lt_of_le (h.oz b hb) hN, Nat.lt_of_lt_of_le h.pN hN⟩
theorem top (h : cY w p mb N n ws f g v rows bls) : cY w p mb w.heap.size n ws f g v rows bls :=
 ⟨h.lt, h.box, h.grow, h.sub, h.nd, h.seen, fun b hb => h.grow.sub_lt b hb, fun b hb => (h.grow.own.lt b hb).2, h.box.lt⟩
theorem added (h : cY w p mb N n ws f g v rows bls) {v' : Value} {rows' : List (List Value)} {ws' : List aA} {bls' : List (List Nat)} (hG : bN ab.ai w' (p + 1) 142 v' rows' ws' bls') (hE : Ext (fun q => v.ownBlock = some q) w w') (hs : ∀ b ∈ bls'.flatten, p + 1 ≤ b ∧ ∀ o, w'.frozen? ⟨b, o, none⟩ = false) (hnd : bls'.flatten.Nodup) :
  cY (w'.setCell ⟨p, 0, none⟩ v') p mb (w'.setCell ⟨p, 0, none⟩ v').heap.size n ws' f g v' rows' bls' := by
 have hb : aj 0 (er v mb f) 237 w' p := h.box.ext hE (fun e => by have := (h.grow.own.lt p e).1; omega)
 have hb2 : aj 0 (er v' mb f) 237 (w'.setCell ⟨p, 0, none⟩ v') p := hb.set 0 v'
 have e2 : Ext (fun c => c = p) w' (w'.setCell ⟨p, 0, none⟩ v') := (Ext.refl (fun c => c = p) w').setCell ⟨p, 0, none⟩ v' rfl
 have hk : ∀ b ∈ bls'.flatten, (w'.setCell ⟨p, 0, none⟩ v').heap[b]? = w'.heap[b]? := fun b hb => e2.block b (hG.sub_lt b hb) (by have := (hs b hb).1; omega)
 have hG2 : bN ab.ai (w'.setCell ⟨p, 0, none⟩ v') (p + 1) 142 v' rows' ws' bls' := hG.kept (gy (a := ⟨p, 0, none⟩) hG.own (by simp) v') hk
 refine ⟨h.lt, hb2, hG2, fun b hm => ⟨(hs b hm).1, fun o => (ct (hk b hm) o).trans ((hs b hm).2 o)⟩, hnd, ?_, fun b hm => hG2.sub_lt b hm, fun b hm => (hG2.own.lt b hm).2, hb2.lt⟩
 exact (h.seen.ext hE (fun e => by have := (h.grow.own.lt mb e).1; have := h.lt; omega)).ext e2 (by have := h.lt; omega)
theorem marked (h : cY w p mb N n ws f g v rows bls) {n' : Nat} {g' : Int → Int → Nat} (hE : Ext (fun c => c = mb) w w') (hT : dD w' mb n' g') : cY w' p mb N n' ws f g' v rows bls := by
 have hs : ∀ b ∈ bls.flatten, w'.heap[b]? = w.heap[b]? := fun b hb => hE.block b (h.grow.sub_lt b hb) (by have := (h.sub b hb).1; have := h.lt; omega)
 refine ⟨h.lt, h.box.ext hE (by have := h.lt; omega), h.grow.kept ?_ hs, fun b hm => ⟨(h.sub b hm).1, fun o => (ct (hs b hm) o).trans ((h.sub b hm).2 o)⟩, h.nd, hT, h.sF, h.oz, h.pN⟩
 obtain ⟨h1, h2⟩ := h.grow.own
 refine ⟨h1, ?_⟩
 rcases h2 with h2 | ⟨gb, cap, cur, hv, hg, hh, r⟩
 ·
  exact Or.inl h2
 exact Or.inr ⟨gb, cap, cur, hv, hg, (hE.block gb (lt_of_block hh) (by have := h.lt; omega)).trans hh, r⟩
theorem pE (h : cY w p mb N n ws f g v rows bls) (i : Nat) (hi : i < 10) (z : Int) : cY (w.setCell ⟨p, 2 + i, none⟩ (.int .i64 z)) p mb N n ws (fun j => if j = i then z else f j) g v rows bls := by
 have e2 : Ext (fun c => c = p) w (w.setCell ⟨p, 2 + i, none⟩ (.int .i64 z)) := (Ext.refl (fun c => c = p) w).setCell ⟨p, 2 + i, none⟩ _ rfl
 have hs : ∀ b ∈ bls.flatten, (w.setCell ⟨p, 2 + i, none⟩ (.int .i64 z)).heap[b]? = w.heap[b]? := fun b hb => e2.block b (h.grow.sub_lt b hb) (by have := (h.sub b hb).1; omega)
 refine ⟨h.lt, ?_, h.grow.kept (gy (a := ⟨p, 2 + i, none⟩) h.grow.own (by simp) _) hs, fun b hm => ⟨(h.sub b hm).1, fun o => (ct (hs b hm) o).trans ((h.sub b hm).2 o)⟩, h.nd, h.seen.ext e2 (by have := h.lt; omega), h.sF, h.oz, h.pN⟩
 rw [← nh v mb f i hi z]
 exact h.box.set (2 + i) _
theorem same (h : cY w p mb N n ws f g v rows bls) {n' : Nat} {f' : Int → Int} {g' : Int → Int → Nat} (hn : n ≤ n') (hf : ∀ j, f j = f' j) (hg : ∀ s q, g s q = g' s q) : cY w p mb N n' ws f' g' v rows bls := by
 rw [funext hf] at h
 exact ⟨h.lt, h.box, h.grow, h.sub, h.nd, (h.seen.mono hn).congr hg, h.sF, h.oz, h.pN⟩
end cY
abbrev Told (w : World) (p mb N : Nat) (ws : List aA) (v : Value) (rows : List (List Value)) (bls : List (List Nat)) : Prop := cY w p mb N ws.length ws (aV ws) (fun s q => bM ws s q) v rows bls
theorem pg (w : World) : Told ((w.alloc (.map #[] 0)).alloc (.cells (er (.slice none 0 0) w.heap.size (aV [])) 237)) (w.heap.size + 1) w.heap.size ((w.alloc (.map #[] 0)).alloc (.cells (er (.slice none 0 0) w.heap.size (aV [])) 237)).heap.size [] (.slice none 0 0) [] [] := by
 have e : (w.alloc (.map #[] 0)).heap.size = w.heap.size + 1 := by simp
 have b : aj 0 (er (.slice none 0 0) w.heap.size (aV [])) 237 ((w.alloc (.map #[] 0)).alloc (.cells (er (.slice none 0 0) w.heap.size (aV [])) 237)) (w.alloc (.map #[] 0)).heap.size := aH (Nat.zero_le _)
 rw [e] at b
 refine ⟨by omega, b, bN.nil ⟨by simp, Or.inl ⟨rfl, rfl⟩⟩, by simp, by simp, ?_, by simp, by simp [Value.ownBlock], b.lt⟩
 exact (oB w).ext (aL ((Below.refl _ _).alloc (Nat.le_refl _) _) (fun _ => False)) (fun h => h)
end Go.Proofs.YtecagllmonckgaaGreat
