/-
  Texts of this proof in one: SpecWN, SpecNetF, SpecWF, ImplNodeId, ImplEpoch, PartReads, ImplChainF, ImplUpTo, TickMap, ToldPlain.
  Their conditions stand in their theorems.
-/
import Derived.Test.YtoanimpijfijgaaGreatFi08
import Derived.Deep.RegionHeld3
import Derived.Test.YtoanimpijfijgaaGreatFi00
import Derived.Test.YtoanimpijfijgaaGreatFi06
import Derived.Test.YtoanimpijfijgaaGreatFi01
import Derived.Test.YtoanimpijfijgaaGreatChecked
import Derived.Deep.CutRange
import Derived.Maps.OwnSet
import Derived.DeepKeys4
set_option maxRecDepth 100000
set_option maxHeartbeats 4000000
namespace Go.Proofs.YtoanimpijfijgaaGreat
open Go.RowKit
theorem nodesF_dropS (c : DChain) {xs : List DNode} {k : Nat} (hk : k < xs.length) : nodesF c k (xs.drop k) = if nodeFault xs[k] ≠ 0 then nodeFault xs[k] else if (xs[k].id != (k : Int) + 1) = true then 1 else if (decide (c.epoch < xs[k].epoch) || ((xs[k].up && decide (0 ≤ placeC c.ids xs[k].id)) && (xs[k].epoch != c.epoch))) = true then 7 else nodesF c (k + 1) (xs.drop (k + 1)) := by
 rw [List.drop_eq_getElem_cons hk, nodesF]
 by_cases h1 : nodeFault xs[k] ≠ 0
 ·
  rw [if_pos h1, if_pos h1]
 rw [if_neg h1, if_neg h1]
 by_cases h2 : xs[k].id ≠ (k : Int) + 1
 ·
  have b2 : (xs[k].id != (k : Int) + 1) = true := by simpa using h2
  rw [if_pos h2, b2, if_pos rfl]
 have b2 : (xs[k].id != (k : Int) + 1) = false := by simpa using h2
 rw [if_neg h2, b2, if_neg (show ¬ (false = true) by simp)]
 by_cases h3 : c.epoch < xs[k].epoch ∨ (xs[k].up = true ∧ 0 ≤ placeC c.ids xs[k].id ∧ xs[k].epoch ≠ c.epoch)
 ·
  have b3 : (decide (c.epoch < xs[k].epoch) || ((xs[k].up && decide (0 ≤ placeC c.ids xs[k].id)) && (xs[k].epoch != c.epoch))) = true := by
   rcases h3 with h3 | ⟨h4, h5, h6⟩
   ·
    simp [h3]
   simp [h4, h5, h6]
  rw [if_pos h3, b3, if_pos rfl]
 rw [if_neg h3, if_neg]
 intro q
 apply h3
 simp only [Bool.or_eq_true, Bool.and_eq_true, decide_eq_true_eq, bne_iff_ne] at q
 rcases q with q | ⟨⟨q1, q2⟩, q3⟩
 ·
  exact Or.inl q
 exact Or.inr ⟨q1, q2, q3⟩
theorem l12NodesC (a3 : Option Addr) (d3 : Nat) (a4 : Option Addr) (d4 : Nat) (a5 : Option Addr) (d5 : Nat) (a6 : Option Addr) (d6 : Nat) (x : DWorld) (xb : Nat) (w : World) (hX : Box 0 #[.int .i64 x.now, .int .i64 x.events, .int .i64 x.chain.epoch, .slice a3 x.chain.ids.length d3, .slice a4 x.nodes.length d4, .slice a5 x.msgs.length d5, .slice a6 x.history.length d6] 36 w xb) (h : Lay.tWorld.Reads w [.int .i64 x.now, .int .i64 x.events, .int .i64 x.chain.epoch, .slice a3 x.chain.ids.length d3, .slice a4 x.nodes.length d4, .slice a5 x.msgs.length d5, .slice a6 x.history.length d6] x) :
  Calls Tryz.prog 179 #[.pointer (some ⟨xb, 0, none⟩)] w fun e w' => e = .returned (.int .i64 (nodesFault x)) ∧ Below w.heap.size w w' := by
 obtain ⟨_, _, _, _, _, _, _, _, hq, RC, RN, -, -⟩ := open_World h
 simp only [List.cons.injEq, Value.slice.injEq, and_true, true_and] at hq
 obtain ⟨⟨rfl, rfl⟩, ⟨rfl, rfl⟩, ⟨rfl, rfl⟩, rfl, rfl⟩ := hq
 obtain ⟨_, _, hq, RI⟩ := open_Chain RC
 simp only [List.cons.injEq, Value.slice.injEq, and_true, true_and] at hq
 obtain ⟨rfl, rfl⟩ := hq
 have hbig := RI.big
 have hbn := RN.big
 have HI := yh RI
 have HN := yh RN
 have HX := yh hX
 have HQ : Hid (nodesFault x = if nodesF x.chain 0 (x.nodes.drop 0) ≠ 0 then nodesF x.chain 0 (x.nodes.drop 0) else if (x.chain.ids.drop 0).all (nodeIn x) = true then 0 else 4) := by
  show nodesFault x = _
  unfold nodesFault
  rfl
 have HV : Hid (∀ n, nodesF x.chain 0 (x.nodes.drop 0) = n → n ≠ 0 → nodesFault x = n) := fun n h1 h2 => by rw [uh HQ, h1, if_pos h2]
 have HV0 : Hid (nodesF x.chain 0 (x.nodes.drop 0) = 0 → nodesFault x = if (x.chain.ids.drop 0).all (nodeIn x) = true then 0 else 4) := fun h1 => by rw [uh HQ, h1]; rfl
 clear RC RN RI h hX HQ
 generalize nodesFault x = r at *
 generalize hF0 : nodesF x.chain 0 (x.nodes.drop 0) = f0 at *
 replace hF0 := hF0.symm
 go_enter Tryz.func179, Tryz.ntmps179
 go_wp2_with fail
 go_loopw [3] (fun i wr => ∃ k : Nat, k ≤ x.nodes.length ∧ i = .int .i64 k ∧ f0 = nodesF x.chain k (x.nodes.drop k) ∧ Below w.heap.size w wr) (fun i _ => x.nodes.length - (intOf i).toNat)
 case atStart => exact ⟨0, Nat.zero_le _, rfl, hF0, Below.refl _ _⟩
 case round =>
  obtain ⟨k, hk, rfl, hF, hB⟩ := hrel
  clear hF0
  have hX1 := (uh HX).keep hB
  have v2 := Box.at hX1 2 _ rfl
  have v3 := Box.at hX1 4 _ rfl
  have w3 := Box.at hX1 3 _ rfl
  simp only [ga, gb, gc] at v2 v3 w3
  have xl := hX1.lt
  have HX1 := yh hX1
  clear hX1 w3
  by_cases hlt : k < x.nodes.length
  ·
   obtain ⟨b, off, rfl, hbl⟩ := Lay.sl_addr (uh HN) (by omega)
   obtain ⟨row, hcl, hr⟩ := Lay.row_at (uh HN) hlt
   replace hr := hr.later hB
   rw [nodesF_dropS x.chain hlt] at hF
   have hdl : decide ((k : Int) < (x.nodes.length : Int)) = true := by simp; omega
   have hrl := hr.len
   obtain ⟨a4n, d4n, rfl, RW⟩ := open_Node hr
   have hRI : RowIn #[.int .i64 (x.nodes[k]).id, .bool (x.nodes[k]).up, .int .i64 (x.nodes[k]).epoch, .int .i64 (x.nodes[k]).lease, .slice a4n (x.nodes[k]).writes.length d4n, .int .i64 (x.nodes[k]).sure, .int .i64 (x.nodes[k]).clean] wr b (off + k * 7) := RowIn.ofRow (A := Lay.tNode) (k := k) (fun m hm => (hB.cell (p := ⟨b, off + k * 7 + m, none⟩) hbl).trans (hcl m hm)) hrl (Nat.lt_of_lt_of_le hbl hB.size)
   have hI := (uh HI).later hB
   have HL := yh (l9FaultO b (off + k * 7) a4n d4n _ wr hRI RW)
   have HRI := yh hRI
   have HB := yh hB
   have HF := yh hF
   have HI1 := yh hI
   clear hF hB hr hrl hcl hRI hI RW
   generalize hx : x.nodes[k] = n at *
   clear hx
   go_wp2_with fail
   refine (uh HL).mono ?_
   rintro e w5 ⟨rfl, hb⟩
   replace HX1 := yh ((uh HX1).keep hb)
   replace HRI := yh ((uh HRI).keep hb)
   replace HI1 := yh ((uh HI1).later hb)
   replace HB := yh ((uh HB).trans (hb.mono (uh HB).size))
   clear hb HL v2 v3
   by_cases e1 : nodeFault n ≠ 0
   ·
    have hd : (nodeFault n != 0) = true := by simpa using e1
    have HE := yh (uh HV _ ((uh HF).trans (if_pos e1)) e1)
    clear e1
    generalize nodeFault n = c at *
    go_wp2_with fail
    go_ret
    exact ⟨by rw [uh HE]; rfl, uh HB⟩
   replace HF := yh ((uh HF).trans (if_neg e1))
   have hd : nodeFault n = 0 := by simpa using e1
   clear e1
   rw [hd]
   clear hd
   have HB0 := HB
   replace HB := yh (uh HB).drew
   have z0' := (uh HRI).at 0 _ rfl
   have z0 := (uh HRI).drew.at 0 _ rfl
   have z1 := (uh HRI).drew.at 1 _ rfl
   have z2 := (uh HRI).drew.at 2 _ rfl
   have y2 := Box.at (uh HX1).drew 2 _ rfl
   simp only [List.getElem_toArray, List.getElem_cons_zero, List.getElem_cons_succ, Nat.add_zero] at z0' z0 z1 z2 y2
   have xl5 := (uh HX1).lt
   have rl5 := (uh HRI).lt
   have LA : Hid (Calls Tryz.prog 131 #[.pointer (some ⟨xb, 2, none⟩), .int .i64 n.id] w5.drew fun e w' => e = .returned (.int .i64 (placeC x.chain.ids n.id)) ∧ w' = w5.drew) := l10AtO xb 2 _ _ x.chain n.id w5.drew ⟨(uh HX1).drew.at 2 _ rfl, (uh HX1).drew.at 3 _ rfl⟩ ((uh HI1).drew 1)
   generalize hid : n.id = id at *
   cases e2 : (id != (k : Int) + 1)
   ·
    replace HF := yh ((uh HF).trans (if_neg (by rw [e2]; simp)))
    clear hid
    generalize hup : n.up = up at *
    generalize hep : n.epoch = ep at *
    generalize hce : x.chain.epoch = ce at *
    generalize placeC x.chain.ids id = p at *
    clear hup hep hce
    cases e3 : decide (ce < ep)
    ·
     cases up
     ·
      replace HF := yh ((uh HF).trans (if_neg (by rw [e3]; simp)))
      go_wp2_with fail
      refine wp_region_noPanic ?_
      refine wp_region_held_drew (S := fun w' => w' = w5.drew) (by kernel_rfl) rfl (fun zq => ?_)
      generalize w5.drew = wD at zq z0 z1 z2 y2 HB LA ⊢
      refine tkJ 0 (v := ?vq1_0) ?hq1_0 zq ?rq1_0
      case hq1_0 =>
       intro wS hSw
       subst hSw
       (try dsimp only at hSw)
       go_simp
       try with_reducible rfl
      refine tkJ 1 (v := ?vq1_1) ?hq1_1 zq ?rq1_1
      case hq1_1 =>
       intro wS hSw
       subst hSw
       (try dsimp only at hSw)
       go_simp
       try with_reducible rfl
      refine tkJ 2 (v := ?vq1_2) ?hq1_2 zq ?rq1_2
      case hq1_2 =>
       intro wS hSw
       subst hSw
       (try dsimp only at hSw)
       go_simp
       try with_reducible rfl
      refine tkJ 3 (v := ?vq1_3) ?hq1_3 zq ?rq1_3
      case hq1_3 =>
       intro wS hSw
       subst hSw
       (try dsimp only at hSw)
       go_simp
       try with_reducible rfl
      refine tkJ 4 (v := ?vq1_4) ?hq1_4 zq ?rq1_4
      case hq1_4 =>
       intro wS hSw
       subst hSw
       (try dsimp only at hSw)
       go_simp
       try with_reducible rfl
      refine tkJ 5 (v := ?vq1_5) ?hq1_5 zq ?rq1_5
      case hq1_5 =>
       intro wS hSw
       subst hSw
       (try dsimp only at hSw)
       go_simp
       try with_reducible rfl
      refine tkJ 6 (v := ?vq1_6) ?hq1_6 zq ?rq1_6
      case hq1_6 =>
       intro wS hSw
       subst hSw
       (try dsimp only at hSw)
       go_simp
       try with_reducible rfl
      refine tkJ 7 (v := ?vq1_7) ?hq1_7 zq ?rq1_7
      case hq1_7 =>
       intro wS hSw
       subst hSw
       (try dsimp only at hSw)
       go_simp
       try with_reducible rfl
      refine tkJ 8 (v := ?vq1_8) ?hq1_8 zq ?rq1_8
      case hq1_8 =>
       intro wS hSw
       subst hSw
       (try dsimp only at hSw)
       go_simp
       try with_reducible rfl
      refine tkJ 9 (v := ?vq1_9) ?hq1_9 zq ?rq1_9
      case hq1_9 =>
       intro wS hSw
       subst hSw
       (try dsimp only at hSw)
       go_simp
       try with_reducible rfl
      refine tkJ 10 (v := ?vq1_10) ?hq1_10 zq ?rq1_10
      case hq1_10 =>
       intro wS hSw
       subst hSw
       (try dsimp only at hSw)
       go_simp
       try with_reducible rfl
      refine tkJ 11 (v := ?vq1_11) ?hq1_11 zq ?rq1_11
      case hq1_11 =>
       intro wS hSw
       subst hSw
       (try dsimp only at hSw)
       go_simp
       try with_reducible rfl
      refine tkJ 12 (v := ?vq1_12) ?hq1_12 zq ?rq1_12
      case hq1_12 =>
       intro wS hSw
       subst hSw
       (try dsimp only at hSw)
       go_simp
       try with_reducible rfl
      refine tkJ 13 (v := ?vq1_13) ?hq1_13 zq ?rq1_13
      case hq1_13 =>
       intro wS hSw
       subst hSw
       (try dsimp only at hSw)
       go_simp
       try with_reducible rfl
      refine tkJ 14 (v := ?vq1_14) ?hq1_14 zq ?rq1_14
      case hq1_14 =>
       intro wS hSw
       subst hSw
       (try dsimp only at hSw)
       go_simp
       try with_reducible rfl
      refine tkJ 15 (v := ?vq1_15) ?hq1_15 zq ?rq1_15
      case hq1_15 =>
       intro wS hSw
       subst hSw
       (try dsimp only at hSw)
       go_simp
       try with_reducible rfl
      refine skH 16 zq ?_
      refine skH 17 zq ?_
      refine skH 18 zq ?_
      refine skH 19 zq ?_
      refine skH 20 zq ?_
      refine skH 21 zq ?_
      refine skH 22 zq ?_
      refine skH 23 zq ?_
      refine skH 24 zq ?_
      refine tkJ 25 (v := ?vq1_25) ?hq1_25 zq ?rq1_25
      case hq1_25 =>
       intro wS hSw
       subst hSw
       (try dsimp only at hSw)
       go_simp
       try with_reducible rfl
      refine tkJ 26 (v := ?vq1_26) ?hq1_26 zq ?rq1_26
      case hq1_26 =>
       intro wS hSw
       subst hSw
       (try dsimp only at hSw)
       go_simp
       try with_reducible rfl
      refine skH 27 zq ?_
      refine skH 28 zq ?_
      refine skH 29 zq ?_
      refine skH 30 zq ?_
      refine skH 31 zq ?_
      refine skH 32 zq ?_
      refine skH 33 zq ?_
      refine skH 34 zq ?_
      refine skH 35 zq ?_
      refine skH 36 zq ?_
      refine tkJ 37 (v := ?vq1_37) ?hq1_37 zq ?rq1_37
      case hq1_37 =>
       intro wS hSw
       subst hSw
       (try dsimp only at hSw)
       go_simp
       try with_reducible rfl
      refine tkJ 38 (v := ?vq1_38) ?hq1_38 zq ?rq1_38
      case hq1_38 =>
       intro wS hSw
       subst hSw
       (try dsimp only at hSw)
       go_simp
       try with_reducible rfl
      refine wpAnyH_done (by kernel_rfl) ?_ _
      refine NoPanic.normal ?_
      clear zq
      go_wp2_with fail
      go_roundw
      case rel => exact ⟨k + 1, by omega, by go_num, uh HF, uh HB⟩
      case measure => simp [intOf]; omega
     cases e4 : decide (0 ≤ p)
     ·
      replace HF := yh ((uh HF).trans (if_neg (by rw [e3, e4]; simp)))
      go_wp2_with fail
      refine wp_region_noPanic ?_
      refine wp_region_held_drew (S := fun w' => w' = w5.drew) (by kernel_rfl) rfl (fun zq => ?_)
      generalize w5.drew = wD at zq z0 z1 z2 y2 HB LA ⊢
      refine tkJ 0 (v := ?vq2_0) ?hq2_0 zq ?rq2_0
      case hq2_0 =>
       intro wS hSw
       subst hSw
       (try dsimp only at hSw)
       go_simp
       try with_reducible rfl
      refine tkJ 1 (v := ?vq2_1) ?hq2_1 zq ?rq2_1
      case hq2_1 =>
       intro wS hSw
       subst hSw
       (try dsimp only at hSw)
       go_simp
       try with_reducible rfl
      refine tkJ 2 (v := ?vq2_2) ?hq2_2 zq ?rq2_2
      case hq2_2 =>
       intro wS hSw
       subst hSw
       (try dsimp only at hSw)
       go_simp
       try with_reducible rfl
      refine tkJ 3 (v := ?vq2_3) ?hq2_3 zq ?rq2_3
      case hq2_3 =>
       intro wS hSw
       subst hSw
       (try dsimp only at hSw)
       go_simp
       try with_reducible rfl
      refine tkJ 4 (v := ?vq2_4) ?hq2_4 zq ?rq2_4
      case hq2_4 =>
       intro wS hSw
       subst hSw
       (try dsimp only at hSw)
       go_simp
       try with_reducible rfl
      refine tkJ 5 (v := ?vq2_5) ?hq2_5 zq ?rq2_5
      case hq2_5 =>
       intro wS hSw
       subst hSw
       (try dsimp only at hSw)
       go_simp
       try with_reducible rfl
      refine tkJ 6 (v := ?vq2_6) ?hq2_6 zq ?rq2_6
      case hq2_6 =>
       intro wS hSw
       subst hSw
       (try dsimp only at hSw)
       go_simp
       try with_reducible rfl
      refine tkJ 7 (v := ?vq2_7) ?hq2_7 zq ?rq2_7
      case hq2_7 =>
       intro wS hSw
       subst hSw
       (try dsimp only at hSw)
       go_simp
       try with_reducible rfl
      refine tkJ 8 (v := ?vq2_8) ?hq2_8 zq ?rq2_8
      case hq2_8 =>
       intro wS hSw
       subst hSw
       (try dsimp only at hSw)
       go_simp
       try with_reducible rfl
      refine tkJ 9 (v := ?vq2_9) ?hq2_9 zq ?rq2_9
      case hq2_9 =>
       intro wS hSw
       subst hSw
       (try dsimp only at hSw)
       go_simp
       try with_reducible rfl
      refine tkJ 10 (v := ?vq2_10) ?hq2_10 zq ?rq2_10
      case hq2_10 =>
       intro wS hSw
       subst hSw
       (try dsimp only at hSw)
       go_simp
       try with_reducible rfl
      refine tkJ 11 (v := ?vq2_11) ?hq2_11 zq ?rq2_11
      case hq2_11 =>
       intro wS hSw
       subst hSw
       (try dsimp only at hSw)
       go_simp
       try with_reducible rfl
      refine tkJ 12 (v := ?vq2_12) ?hq2_12 zq ?rq2_12
      case hq2_12 =>
       intro wS hSw
       subst hSw
       (try dsimp only at hSw)
       go_simp
       try with_reducible rfl
      refine tkJ 13 (v := ?vq2_13) ?hq2_13 zq ?rq2_13
      case hq2_13 =>
       intro wS hSw
       subst hSw
       (try dsimp only at hSw)
       go_simp
       try with_reducible rfl
      refine tkJ 14 (v := ?vq2_14) ?hq2_14 zq ?rq2_14
      case hq2_14 =>
       intro wS hSw
       subst hSw
       (try dsimp only at hSw)
       go_simp
       try with_reducible rfl
      refine tkJ 15 (v := ?vq2_15) ?hq2_15 zq ?rq2_15
      case hq2_15 =>
       intro wS hSw
       subst hSw
       (try dsimp only at hSw)
       go_simp
       try with_reducible rfl
      refine tkJ 16 (v := ?vq2_16) ?hq2_16 zq ?rq2_16
      case hq2_16 =>
       intro wS hSw
       subst hSw
       (try dsimp only at hSw)
       go_simp
       try with_reducible rfl
      refine tkJ 17 (v := ?vq2_17) ?hq2_17 zq ?rq2_17
      case hq2_17 =>
       intro wS hSw
       subst hSw
       (try dsimp only at hSw)
       go_simp
       try with_reducible rfl
      refine tkJ 18 (v := ?vq2_18) ?hq2_18 zq ?rq2_18
      case hq2_18 =>
       intro wS hSw
       subst hSw
       (try dsimp only at hSw)
       go_simp
       try with_reducible rfl
      refine tkJ 19 (v := ?vq2_19) ?hq2_19 zq ?rq2_19
      case hq2_19 =>
       intro wS hSw
       subst hSw
       (try dsimp only at hSw)
       go_simp
       try with_reducible rfl
      refine tkJ 20 (v := ?vq2_20) ?hq2_20 zq ?rq2_20
      case hq2_20 =>
       intro wS hSw
       subst hSw
       (try dsimp only at hSw)
       go_simp
       try with_reducible rfl
      refine tkJ 21 (v := ?vq2_21) ?hq2_21 zq ?rq2_21
      case hq2_21 =>
       intro wS hSw
       subst hSw
       (try dsimp only at hSw)
       go_simp
       try with_reducible rfl
      refine tkJ 22 (v := ?vq2_22) ?hq2_22 zq ?rq2_22
      case hq2_22 =>
       intro wS hSw
       subst hSw
       (try dsimp only at hSw)
       go_simp
       try with_reducible rfl
      refine rdH 23 (fun K hK => ?_)
      go_simp
      go_at_call 131
      refine (uh LA).mono ?_
      rintro e u1 ⟨rfl, h1⟩
      subst u1
      try go_wp2_with fail
      refine hK.out _ _ rfl (fun zq => ?_)
      clear hK K
      try simp only [Act.put, pz, py, px]
      refine tkJ 24 (v := ?vq2_24) ?hq2_24 zq ?rq2_24
      case hq2_24 =>
       intro wS hSw
       subst hSw
       (try dsimp only at hSw)
       go_simp
       try with_reducible rfl
      refine tkJ 25 (v := ?vq2_25) ?hq2_25 zq ?rq2_25
      case hq2_25 =>
       intro wS hSw
       subst hSw
       (try dsimp only at hSw)
       go_simp
       try with_reducible rfl
      refine tkJ 26 (v := ?vq2_26) ?hq2_26 zq ?rq2_26
      case hq2_26 =>
       intro wS hSw
       subst hSw
       (try dsimp only at hSw)
       go_simp
       try with_reducible rfl
      refine skH 27 zq ?_
      refine skH 28 zq ?_
      refine skH 29 zq ?_
      refine skH 30 zq ?_
      refine skH 31 zq ?_
      refine skH 32 zq ?_
      refine skH 33 zq ?_
      refine skH 34 zq ?_
      refine skH 35 zq ?_
      refine skH 36 zq ?_
      refine tkJ 37 (v := ?vq2_37) ?hq2_37 zq ?rq2_37
      case hq2_37 =>
       intro wS hSw
       subst hSw
       (try dsimp only at hSw)
       go_simp
       try with_reducible rfl
      refine tkJ 38 (v := ?vq2_38) ?hq2_38 zq ?rq2_38
      case hq2_38 =>
       intro wS hSw
       subst hSw
       (try dsimp only at hSw)
       go_simp
       try with_reducible rfl
      refine wpAnyH_done (by kernel_rfl) ?_ _
      refine NoPanic.normal ?_
      clear zq
      go_wp2_with fail
      go_roundw
      case rel => exact ⟨k + 1, by omega, by go_num, uh HF, uh HB⟩
      case measure => simp [intOf]; omega
     cases e5 : (ep != ce)
     ·
      replace HF := yh ((uh HF).trans (if_neg (by rw [e3, e4, e5]; simp)))
      go_wp2_with fail
      refine wp_region_noPanic ?_
      refine wp_region_held_drew (S := fun w' => w' = w5.drew) (by kernel_rfl) rfl (fun zq => ?_)
      generalize w5.drew = wD at zq z0 z1 z2 y2 HB LA ⊢
      refine tkJ 0 (v := ?vq3_0) ?hq3_0 zq ?rq3_0
      case hq3_0 =>
       intro wS hSw
       subst hSw
       (try dsimp only at hSw)
       go_simp
       try with_reducible rfl
      refine tkJ 1 (v := ?vq3_1) ?hq3_1 zq ?rq3_1
      case hq3_1 =>
       intro wS hSw
       subst hSw
       (try dsimp only at hSw)
       go_simp
       try with_reducible rfl
      refine tkJ 2 (v := ?vq3_2) ?hq3_2 zq ?rq3_2
      case hq3_2 =>
       intro wS hSw
       subst hSw
       (try dsimp only at hSw)
       go_simp
       try with_reducible rfl
      refine tkJ 3 (v := ?vq3_3) ?hq3_3 zq ?rq3_3
      case hq3_3 =>
       intro wS hSw
       subst hSw
       (try dsimp only at hSw)
       go_simp
       try with_reducible rfl
      refine tkJ 4 (v := ?vq3_4) ?hq3_4 zq ?rq3_4
      case hq3_4 =>
       intro wS hSw
       subst hSw
       (try dsimp only at hSw)
       go_simp
       try with_reducible rfl
      refine tkJ 5 (v := ?vq3_5) ?hq3_5 zq ?rq3_5
      case hq3_5 =>
       intro wS hSw
       subst hSw
       (try dsimp only at hSw)
       go_simp
       try with_reducible rfl
      refine tkJ 6 (v := ?vq3_6) ?hq3_6 zq ?rq3_6
      case hq3_6 =>
       intro wS hSw
       subst hSw
       (try dsimp only at hSw)
       go_simp
       try with_reducible rfl
      refine tkJ 7 (v := ?vq3_7) ?hq3_7 zq ?rq3_7
      case hq3_7 =>
       intro wS hSw
       subst hSw
       (try dsimp only at hSw)
       go_simp
       try with_reducible rfl
      refine tkJ 8 (v := ?vq3_8) ?hq3_8 zq ?rq3_8
      case hq3_8 =>
       intro wS hSw
       subst hSw
       (try dsimp only at hSw)
       go_simp
       try with_reducible rfl
      refine tkJ 9 (v := ?vq3_9) ?hq3_9 zq ?rq3_9
      case hq3_9 =>
       intro wS hSw
       subst hSw
       (try dsimp only at hSw)
       go_simp
       try with_reducible rfl
      refine tkJ 10 (v := ?vq3_10) ?hq3_10 zq ?rq3_10
      case hq3_10 =>
       intro wS hSw
       subst hSw
       (try dsimp only at hSw)
       go_simp
       try with_reducible rfl
      refine tkJ 11 (v := ?vq3_11) ?hq3_11 zq ?rq3_11
      case hq3_11 =>
       intro wS hSw
       subst hSw
       (try dsimp only at hSw)
       go_simp
       try with_reducible rfl
      refine tkJ 12 (v := ?vq3_12) ?hq3_12 zq ?rq3_12
      case hq3_12 =>
       intro wS hSw
       subst hSw
       (try dsimp only at hSw)
       go_simp
       try with_reducible rfl
      refine tkJ 13 (v := ?vq3_13) ?hq3_13 zq ?rq3_13
      case hq3_13 =>
       intro wS hSw
       subst hSw
       (try dsimp only at hSw)
       go_simp
       try with_reducible rfl
      refine tkJ 14 (v := ?vq3_14) ?hq3_14 zq ?rq3_14
      case hq3_14 =>
       intro wS hSw
       subst hSw
       (try dsimp only at hSw)
       go_simp
       try with_reducible rfl
      refine tkJ 15 (v := ?vq3_15) ?hq3_15 zq ?rq3_15
      case hq3_15 =>
       intro wS hSw
       subst hSw
       (try dsimp only at hSw)
       go_simp
       try with_reducible rfl
      refine tkJ 16 (v := ?vq3_16) ?hq3_16 zq ?rq3_16
      case hq3_16 =>
       intro wS hSw
       subst hSw
       (try dsimp only at hSw)
       go_simp
       try with_reducible rfl
      refine tkJ 17 (v := ?vq3_17) ?hq3_17 zq ?rq3_17
      case hq3_17 =>
       intro wS hSw
       subst hSw
       (try dsimp only at hSw)
       go_simp
       try with_reducible rfl
      refine tkJ 18 (v := ?vq3_18) ?hq3_18 zq ?rq3_18
      case hq3_18 =>
       intro wS hSw
       subst hSw
       (try dsimp only at hSw)
       go_simp
       try with_reducible rfl
      refine tkJ 19 (v := ?vq3_19) ?hq3_19 zq ?rq3_19
      case hq3_19 =>
       intro wS hSw
       subst hSw
       (try dsimp only at hSw)
       go_simp
       try with_reducible rfl
      refine tkJ 20 (v := ?vq3_20) ?hq3_20 zq ?rq3_20
      case hq3_20 =>
       intro wS hSw
       subst hSw
       (try dsimp only at hSw)
       go_simp
       try with_reducible rfl
      refine tkJ 21 (v := ?vq3_21) ?hq3_21 zq ?rq3_21
      case hq3_21 =>
       intro wS hSw
       subst hSw
       (try dsimp only at hSw)
       go_simp
       try with_reducible rfl
      refine tkJ 22 (v := ?vq3_22) ?hq3_22 zq ?rq3_22
      case hq3_22 =>
       intro wS hSw
       subst hSw
       (try dsimp only at hSw)
       go_simp
       try with_reducible rfl
      refine rdH 23 (fun K hK => ?_)
      go_simp
      go_at_call 131
      refine (uh LA).mono ?_
      rintro e u1 ⟨rfl, h1⟩
      subst u1
      try go_wp2_with fail
      refine hK.out _ _ rfl (fun zq => ?_)
      clear hK K
      try simp only [Act.put, pz, py, px]
      refine tkJ 24 (v := ?vq3_24) ?hq3_24 zq ?rq3_24
      case hq3_24 =>
       intro wS hSw
       subst hSw
       (try dsimp only at hSw)
       go_simp
       try with_reducible rfl
      refine tkJ 25 (v := ?vq3_25) ?hq3_25 zq ?rq3_25
      case hq3_25 =>
       intro wS hSw
       subst hSw
       (try dsimp only at hSw)
       go_simp
       try with_reducible rfl
      refine tkJ 26 (v := ?vq3_26) ?hq3_26 zq ?rq3_26
      case hq3_26 =>
       intro wS hSw
       subst hSw
       (try dsimp only at hSw)
       go_simp
       try with_reducible rfl
      refine tkJ 27 (v := ?vq3_27) ?hq3_27 zq ?rq3_27
      case hq3_27 =>
       intro wS hSw
       subst hSw
       (try dsimp only at hSw)
       go_simp
       try with_reducible rfl
      refine tkJ 28 (v := ?vq3_28) ?hq3_28 zq ?rq3_28
      case hq3_28 =>
       intro wS hSw
       subst hSw
       (try dsimp only at hSw)
       go_simp
       try with_reducible rfl
      refine tkJ 29 (v := ?vq3_29) ?hq3_29 zq ?rq3_29
      case hq3_29 =>
       intro wS hSw
       subst hSw
       (try dsimp only at hSw)
       go_simp
       try with_reducible rfl
      refine tkJ 30 (v := ?vq3_30) ?hq3_30 zq ?rq3_30
      case hq3_30 =>
       intro wS hSw
       subst hSw
       (try dsimp only at hSw)
       go_simp
       try with_reducible rfl
      refine tkJ 31 (v := ?vq3_31) ?hq3_31 zq ?rq3_31
      case hq3_31 =>
       intro wS hSw
       subst hSw
       (try dsimp only at hSw)
       go_simp
       try with_reducible rfl
      refine tkJ 32 (v := ?vq3_32) ?hq3_32 zq ?rq3_32
      case hq3_32 =>
       intro wS hSw
       subst hSw
       (try dsimp only at hSw)
       go_simp
       try with_reducible rfl
      refine tkJ 33 (v := ?vq3_33) ?hq3_33 zq ?rq3_33
      case hq3_33 =>
       intro wS hSw
       subst hSw
       (try dsimp only at hSw)
       go_simp
       try with_reducible rfl
      refine tkJ 34 (v := ?vq3_34) ?hq3_34 zq ?rq3_34
      case hq3_34 =>
       intro wS hSw
       subst hSw
       (try dsimp only at hSw)
       go_simp
       try with_reducible rfl
      refine tkJ 35 (v := ?vq3_35) ?hq3_35 zq ?rq3_35
      case hq3_35 =>
       intro wS hSw
       subst hSw
       (try dsimp only at hSw)
       go_simp
       try with_reducible rfl
      refine tkJ 36 (v := ?vq3_36) ?hq3_36 zq ?rq3_36
      case hq3_36 =>
       intro wS hSw
       subst hSw
       (try dsimp only at hSw)
       go_simp
       try with_reducible rfl
      refine tkJ 37 (v := ?vq3_37) ?hq3_37 zq ?rq3_37
      case hq3_37 =>
       intro wS hSw
       subst hSw
       (try dsimp only at hSw)
       go_simp
       try with_reducible rfl
      refine tkJ 38 (v := ?vq3_38) ?hq3_38 zq ?rq3_38
      case hq3_38 =>
       intro wS hSw
       subst hSw
       (try dsimp only at hSw)
       go_simp
       try with_reducible rfl
      refine wpAnyH_done (by kernel_rfl) ?_ _
      refine NoPanic.normal ?_
      clear zq
      go_wp2_with fail
      go_roundw
      case rel => exact ⟨k + 1, by omega, by go_num, uh HF, uh HB⟩
      case measure => simp [intOf]; omega
     have HE := yh (uh HV _ ((uh HF).trans (if_pos (by rw [e3, e4, e5]; simp))) (by decide))
     go_wp2_with fail
     refine wp_region_noPanic ?_
     refine wp_region_held_drew (S := fun w' => w' = w5.drew) (by kernel_rfl) rfl (fun zq => ?_)
     generalize w5.drew = wD at zq z0 z1 z2 y2 HB LA ⊢
     refine tkJ 0 (v := ?vq4_0) ?hq4_0 zq ?rq4_0
     case hq4_0 =>
      intro wS hSw
      subst hSw
      (try dsimp only at hSw)
      go_simp
      try with_reducible rfl
     refine tkJ 1 (v := ?vq4_1) ?hq4_1 zq ?rq4_1
     case hq4_1 =>
      intro wS hSw
      subst hSw
      (try dsimp only at hSw)
      go_simp
      try with_reducible rfl
     refine tkJ 2 (v := ?vq4_2) ?hq4_2 zq ?rq4_2
     case hq4_2 =>
      intro wS hSw
      subst hSw
      (try dsimp only at hSw)
      go_simp
      try with_reducible rfl
     refine tkJ 3 (v := ?vq4_3) ?hq4_3 zq ?rq4_3
     case hq4_3 =>
      intro wS hSw
      subst hSw
      (try dsimp only at hSw)
      go_simp
      try with_reducible rfl
     refine tkJ 4 (v := ?vq4_4) ?hq4_4 zq ?rq4_4
     case hq4_4 =>
      intro wS hSw
      subst hSw
      (try dsimp only at hSw)
      go_simp
      try with_reducible rfl
     refine tkJ 5 (v := ?vq4_5) ?hq4_5 zq ?rq4_5
     case hq4_5 =>
      intro wS hSw
      subst hSw
      (try dsimp only at hSw)
      go_simp
      try with_reducible rfl
     refine tkJ 6 (v := ?vq4_6) ?hq4_6 zq ?rq4_6
     case hq4_6 =>
      intro wS hSw
      subst hSw
      (try dsimp only at hSw)
      go_simp
      try with_reducible rfl
     refine tkJ 7 (v := ?vq4_7) ?hq4_7 zq ?rq4_7
     case hq4_7 =>
      intro wS hSw
      subst hSw
      (try dsimp only at hSw)
      go_simp
      try with_reducible rfl
     refine tkJ 8 (v := ?vq4_8) ?hq4_8 zq ?rq4_8
     case hq4_8 =>
      intro wS hSw
      subst hSw
      (try dsimp only at hSw)
      go_simp
      try with_reducible rfl
     refine tkJ 9 (v := ?vq4_9) ?hq4_9 zq ?rq4_9
     case hq4_9 =>
      intro wS hSw
      subst hSw
      (try dsimp only at hSw)
      go_simp
      try with_reducible rfl
     refine tkJ 10 (v := ?vq4_10) ?hq4_10 zq ?rq4_10
     case hq4_10 =>
      intro wS hSw
      subst hSw
      (try dsimp only at hSw)
      go_simp
      try with_reducible rfl
     refine tkJ 11 (v := ?vq4_11) ?hq4_11 zq ?rq4_11
     case hq4_11 =>
      intro wS hSw
      subst hSw
      (try dsimp only at hSw)
      go_simp
      try with_reducible rfl
     refine tkJ 12 (v := ?vq4_12) ?hq4_12 zq ?rq4_12
     case hq4_12 =>
      intro wS hSw
      subst hSw
      (try dsimp only at hSw)
      go_simp
      try with_reducible rfl
     refine tkJ 13 (v := ?vq4_13) ?hq4_13 zq ?rq4_13
     case hq4_13 =>
      intro wS hSw
      subst hSw
      (try dsimp only at hSw)
      go_simp
      try with_reducible rfl
     refine tkJ 14 (v := ?vq4_14) ?hq4_14 zq ?rq4_14
     case hq4_14 =>
      intro wS hSw
      subst hSw
      (try dsimp only at hSw)
      go_simp
      try with_reducible rfl
     refine tkJ 15 (v := ?vq4_15) ?hq4_15 zq ?rq4_15
     case hq4_15 =>
      intro wS hSw
      subst hSw
      (try dsimp only at hSw)
      go_simp
      try with_reducible rfl
     refine tkJ 16 (v := ?vq4_16) ?hq4_16 zq ?rq4_16
     case hq4_16 =>
      intro wS hSw
      subst hSw
      (try dsimp only at hSw)
      go_simp
      try with_reducible rfl
     refine tkJ 17 (v := ?vq4_17) ?hq4_17 zq ?rq4_17
     case hq4_17 =>
      intro wS hSw
      subst hSw
      (try dsimp only at hSw)
      go_simp
      try with_reducible rfl
     refine tkJ 18 (v := ?vq4_18) ?hq4_18 zq ?rq4_18
     case hq4_18 =>
      intro wS hSw
      subst hSw
      (try dsimp only at hSw)
      go_simp
      try with_reducible rfl
     refine tkJ 19 (v := ?vq4_19) ?hq4_19 zq ?rq4_19
     case hq4_19 =>
      intro wS hSw
      subst hSw
      (try dsimp only at hSw)
      go_simp
      try with_reducible rfl
     refine tkJ 20 (v := ?vq4_20) ?hq4_20 zq ?rq4_20
     case hq4_20 =>
      intro wS hSw
      subst hSw
      (try dsimp only at hSw)
      go_simp
      try with_reducible rfl
     refine tkJ 21 (v := ?vq4_21) ?hq4_21 zq ?rq4_21
     case hq4_21 =>
      intro wS hSw
      subst hSw
      (try dsimp only at hSw)
      go_simp
      try with_reducible rfl
     refine tkJ 22 (v := ?vq4_22) ?hq4_22 zq ?rq4_22
     case hq4_22 =>
      intro wS hSw
      subst hSw
      (try dsimp only at hSw)
      go_simp
      try with_reducible rfl
     refine rdH 23 (fun K hK => ?_)
     go_simp
     go_at_call 131
     refine (uh LA).mono ?_
     rintro e u1 ⟨rfl, h1⟩
     subst u1
     try go_wp2_with fail
     refine hK.out _ _ rfl (fun zq => ?_)
     clear hK K
     try simp only [Act.put, pz, py, px]
     refine tkJ 24 (v := ?vq4_24) ?hq4_24 zq ?rq4_24
     case hq4_24 =>
      intro wS hSw
      subst hSw
      (try dsimp only at hSw)
      go_simp
      try with_reducible rfl
     refine tkJ 25 (v := ?vq4_25) ?hq4_25 zq ?rq4_25
     case hq4_25 =>
      intro wS hSw
      subst hSw
      (try dsimp only at hSw)
      go_simp
      try with_reducible rfl
     refine tkJ 26 (v := ?vq4_26) ?hq4_26 zq ?rq4_26
     case hq4_26 =>
      intro wS hSw
      subst hSw
      (try dsimp only at hSw)
      go_simp
      try with_reducible rfl
     refine tkJ 27 (v := ?vq4_27) ?hq4_27 zq ?rq4_27
     case hq4_27 =>
      intro wS hSw
      subst hSw
      (try dsimp only at hSw)
      go_simp
      try with_reducible rfl
     refine tkJ 28 (v := ?vq4_28) ?hq4_28 zq ?rq4_28
     case hq4_28 =>
      intro wS hSw
      subst hSw
      (try dsimp only at hSw)
      go_simp
      try with_reducible rfl
     refine tkJ 29 (v := ?vq4_29) ?hq4_29 zq ?rq4_29
     case hq4_29 =>
      intro wS hSw
      subst hSw
      (try dsimp only at hSw)
      go_simp
      try with_reducible rfl
     refine tkJ 30 (v := ?vq4_30) ?hq4_30 zq ?rq4_30
     case hq4_30 =>
      intro wS hSw
      subst hSw
      (try dsimp only at hSw)
      go_simp
      try with_reducible rfl
     refine tkJ 31 (v := ?vq4_31) ?hq4_31 zq ?rq4_31
     case hq4_31 =>
      intro wS hSw
      subst hSw
      (try dsimp only at hSw)
      go_simp
      try with_reducible rfl
     refine tkJ 32 (v := ?vq4_32) ?hq4_32 zq ?rq4_32
     case hq4_32 =>
      intro wS hSw
      subst hSw
      (try dsimp only at hSw)
      go_simp
      try with_reducible rfl
     refine tkJ 33 (v := ?vq4_33) ?hq4_33 zq ?rq4_33
     case hq4_33 =>
      intro wS hSw
      subst hSw
      (try dsimp only at hSw)
      go_simp
      try with_reducible rfl
     refine tkJ 34 (v := ?vq4_34) ?hq4_34 zq ?rq4_34
     case hq4_34 =>
      intro wS hSw
      subst hSw
      (try dsimp only at hSw)
      go_simp
      try with_reducible rfl
     refine tkJ 35 (v := ?vq4_35) ?hq4_35 zq ?rq4_35
     case hq4_35 =>
      intro wS hSw
      subst hSw
      (try dsimp only at hSw)
      go_simp
      try with_reducible rfl
     refine tkJ 36 (v := ?vq4_36) ?hq4_36 zq ?rq4_36
     case hq4_36 =>
      intro wS hSw
      subst hSw
      (try dsimp only at hSw)
      go_simp
      try with_reducible rfl
     refine tkJ 37 (v := ?vq4_37) ?hq4_37 zq ?rq4_37
     case hq4_37 =>
      intro wS hSw
      subst hSw
      (try dsimp only at hSw)
      go_simp
      try with_reducible rfl
     refine tkJ 38 (v := ?vq4_38) ?hq4_38 zq ?rq4_38
     case hq4_38 =>
      intro wS hSw
      subst hSw
      (try dsimp only at hSw)
      go_simp
      try with_reducible rfl
     refine wpAnyH_done (by kernel_rfl) ?_ _
     refine NoPanic.normal ?_
     clear zq
     go_wp2_with fail
     go_ret
     exact ⟨by rw [uh HE]; rfl, uh HB⟩
    have HE := yh (uh HV _ ((uh HF).trans (if_pos (by rw [e3]; simp))) (by decide))
    go_wp2_with fail
    refine wp_region_noPanic ?_
    refine wp_region_held_drew (S := fun w' => w' = w5.drew) (by kernel_rfl) rfl (fun zq => ?_)
    generalize w5.drew = wD at zq z0 z1 z2 y2 HB LA ⊢
    refine tkJ 0 (v := ?vq5_0) ?hq5_0 zq ?rq5_0
    case hq5_0 =>
     intro wS hSw
     subst hSw
     (try dsimp only at hSw)
     go_simp
     try with_reducible rfl
    refine tkJ 1 (v := ?vq5_1) ?hq5_1 zq ?rq5_1
    case hq5_1 =>
     intro wS hSw
     subst hSw
     (try dsimp only at hSw)
     go_simp
     try with_reducible rfl
    refine tkJ 2 (v := ?vq5_2) ?hq5_2 zq ?rq5_2
    case hq5_2 =>
     intro wS hSw
     subst hSw
     (try dsimp only at hSw)
     go_simp
     try with_reducible rfl
    refine tkJ 3 (v := ?vq5_3) ?hq5_3 zq ?rq5_3
    case hq5_3 =>
     intro wS hSw
     subst hSw
     (try dsimp only at hSw)
     go_simp
     try with_reducible rfl
    refine tkJ 4 (v := ?vq5_4) ?hq5_4 zq ?rq5_4
    case hq5_4 =>
     intro wS hSw
     subst hSw
     (try dsimp only at hSw)
     go_simp
     try with_reducible rfl
    refine tkJ 5 (v := ?vq5_5) ?hq5_5 zq ?rq5_5
    case hq5_5 =>
     intro wS hSw
     subst hSw
     (try dsimp only at hSw)
     go_simp
     try with_reducible rfl
    refine tkJ 6 (v := ?vq5_6) ?hq5_6 zq ?rq5_6
    case hq5_6 =>
     intro wS hSw
     subst hSw
     (try dsimp only at hSw)
     go_simp
     try with_reducible rfl
    refine tkJ 7 (v := ?vq5_7) ?hq5_7 zq ?rq5_7
    case hq5_7 =>
     intro wS hSw
     subst hSw
     (try dsimp only at hSw)
     go_simp
     try with_reducible rfl
    refine tkJ 8 (v := ?vq5_8) ?hq5_8 zq ?rq5_8
    case hq5_8 =>
     intro wS hSw
     subst hSw
     (try dsimp only at hSw)
     go_simp
     try with_reducible rfl
    refine tkJ 9 (v := ?vq5_9) ?hq5_9 zq ?rq5_9
    case hq5_9 =>
     intro wS hSw
     subst hSw
     (try dsimp only at hSw)
     go_simp
     try with_reducible rfl
    refine tkJ 10 (v := ?vq5_10) ?hq5_10 zq ?rq5_10
    case hq5_10 =>
     intro wS hSw
     subst hSw
     (try dsimp only at hSw)
     go_simp
     try with_reducible rfl
    refine skH 11 zq ?_
    refine skH 12 zq ?_
    refine skH 13 zq ?_
    refine skH 14 zq ?_
    refine skH 15 zq ?_
    refine skH 16 zq ?_
    refine skH 17 zq ?_
    refine skH 18 zq ?_
    refine skH 19 zq ?_
    refine skH 20 zq ?_
    refine skH 21 zq ?_
    refine skH 22 zq ?_
    refine skH 23 zq ?_
    refine skH 24 zq ?_
    refine skH 25 zq ?_
    refine skH 26 zq ?_
    refine skH 27 zq ?_
    refine skH 28 zq ?_
    refine skH 29 zq ?_
    refine skH 30 zq ?_
    refine skH 31 zq ?_
    refine skH 32 zq ?_
    refine skH 33 zq ?_
    refine skH 34 zq ?_
    refine skH 35 zq ?_
    refine skH 36 zq ?_
    refine skH 37 zq ?_
    refine tkJ 38 (v := ?vq5_38) ?hq5_38 zq ?rq5_38
    case hq5_38 =>
     intro wS hSw
     subst hSw
     (try dsimp only at hSw)
     go_simp
     try with_reducible rfl
    refine wpAnyH_done (by kernel_rfl) ?_ _
    refine NoPanic.normal ?_
    clear zq
    go_wp2_with fail
    go_ret
    exact ⟨by rw [uh HE]; rfl, uh HB⟩
   have HE := yh (uh HV _ ((uh HF).trans (if_pos e2)) (by decide))
   go_wp2_with fail
   go_ret
   exact ⟨by rw [uh HE]; rfl, uh HB0⟩
  obtain rfl : k = x.nodes.length := by omega
  rw [List.drop_length] at hF
  have hdl : decide ((x.nodes.length : Int) < (x.nodes.length : Int)) = false := by simp
  have HZ := yh (uh HV0 hF)
  have HB1 := yh hB
  clear hF hB HV HV0
  go_wp2_with fail
  clear hdl v2 v3
  go_loopw [6] (fun i wq => ∃ k : Nat, k ≤ x.chain.ids.length ∧ i = .int .i64 k ∧ r = (if (x.chain.ids.drop k).all (nodeIn x) = true then 0 else 4) ∧ Below wr.heap.size wr wq) (fun i _ => x.chain.ids.length - (intOf i).toNat)
  case atStart => exact ⟨0, Nat.zero_le _, rfl, uh HZ, Below.refl _ _⟩
  case round =>
   obtain ⟨k, hk, rfl, hF, hB⟩ := hrel
   clear HZ
   have hX2 := (uh HX1).keep hB
   have y3 := Box.at hX2 3 _ rfl
   simp only [ga, gb, gc] at y3
   have xl2 := hX2.lt
   have HB := yh ((uh HB1).trans (hB.mono (uh HB1).size))
   by_cases hlt : k < x.chain.ids.length
   ·
    obtain ⟨b, off, rfl, hbl⟩ := Lay.sl_addr (uh HI) (by omega)
    have c1 := ((uh HB).cell (p := ⟨b, off + k, none⟩) hbl).trans (int_cell (uh HI) hlt)
    have hdl : decide ((k : Int) < (x.chain.ids.length : Int)) = true := by simp; omega
    rw [List.drop_eq_getElem_cons hlt, List.all_cons] at hF
    have HL := yh (l12NodeC _ _ _ _ _ _ _ _ x x.chain.ids[k] xb wr hX2)
    have HF := yh hF
    have HBQ := yh hB
    clear hF hX2 hB
    generalize x.chain.ids[k] = z at *
    go_wp2_with fail
    refine (uh HL).mono ?_
    rintro e w5 ⟨rfl, h5⟩
    subst w5
    clear HL
    generalize nodeIn x z = q at *
    cases q
    ·
     replace HF := yh ((uh HF).trans (if_neg (by simp)))
     go_wp2_with fail
     go_ret
     exact ⟨by rw [uh HF]; rfl, uh HB⟩
    rw [Bool.true_and] at HF
    go_wp2_with fail
    go_roundw
    case rel => exact ⟨k + 1, by omega, by go_num, uh HF, uh HBQ⟩
    case measure => simp [intOf]; omega
   obtain rfl : k = x.chain.ids.length := by omega
   rw [List.drop_length, List.all_nil, if_pos rfl] at hF
   have hdl : decide ((x.chain.ids.length : Int) < (x.chain.ids.length : Int)) = false := by simp
   have HF := yh hF
   clear hF hB hX2
   go_wp2_with fail
   go_ret
   exact ⟨by rw [uh HF]; rfl, uh HB⟩
theorem msg_row {w : World} {b off cap : Nat} {xs : List DMsg} (h : (Lay.sl Lay.tMsg).Reads w [.slice (some ⟨b, off, none⟩) xs.length cap] xs) {k : Nat} (hk : k < xs.length) : ∃ a d, MsgAt w b (off + k * 10) xs[k] (.slice a xs[k].write.vec.length d) ∧ (Lay.sl Lay.int).Reads w [.slice a xs[k].write.vec.length d] xs[k].write.vec := by
 obtain ⟨row, hc, hr⟩ := Lay.row_at h hk
 obtain ⟨a, d, rfl, R⟩ := open_Msg hr
 exact ⟨a, d, ⟨hc 0 (by decide), hc 1 (by decide), hc 2 (by decide), hc 3 (by decide), hc 4 (by decide), hc 5 (by decide), hc 6 (by decide), hc 7 (by decide), hc 8 (by decide), hc 9 (by decide)⟩, write_vec R⟩
theorem nf_many {xs : List DMsg} (h : 40 < xs.length) : netFault xs = 2 := by rw [netFault, if_pos h]
theorem nf_few {xs : List DMsg} (h : ¬ 40 < xs.length) : netFault xs = msgsFrom xs := by rw [netFault, if_neg h]
theorem l11FaultC (v : Value) (xs : List DMsg) (w : World) (h : (Lay.sl Lay.tMsg).Reads w [v] xs) :
  Calls Tryz.prog 180 #[v] w fun e w' => e = .returned (.int .i64 (netFault xs)) ∧ Below w.heap.size w w' := by
 obtain ⟨ao, cap, rfl⟩ := open_sl h
 have hbig := h.big
 have H := yh h
 clear h
 by_cases h40 : 40 < xs.length
 ·
  have HF := yh (nf_many h40)
  have hd : decide ((40 : Int) < (xs.length : Int)) = true := by simp; omega
  go_enter Tryz.func180, Tryz.ntmps180
  go_wp2_with fail
  go_ret
  exact ⟨by rw [uh HF]; rfl, Below.refl _ _⟩
 have HF := yh (nf_few h40)
 have hd : decide ((40 : Int) < (xs.length : Int)) = false := by simp; omega
 go_enter Tryz.func180, Tryz.ntmps180
 go_wp2_with fail
 clear hd
 go_loopw [3] (fun i wr => ∃ k : Nat, k ≤ xs.length ∧ i = .int .i64 k ∧ (∀ j (hj : j < xs.length), j < k → msgFault xs[j] = 0) ∧ Below w.heap.size w wr) (fun i _ => xs.length - (intOf i).toNat)
 case atStart => exact ⟨0, Nat.zero_le _, rfl, fun j _ hj => by omega, Below.refl _ _⟩
 case round =>
  obtain ⟨k, hk, rfl, hz, hB⟩ := hrel
  by_cases hlt : k < xs.length
  ·
   obtain ⟨b, off, rfl, hbl⟩ := Lay.sl_addr (uh H) (by omega)
   obtain ⟨a, d, hM, R⟩ := msg_row ((uh H).later hB) hlt
   have HL := yh (l11MsgC b (off + k * 10) a d xs[k] wr hM R)
   have hbr : b < wr.heap.size := Nat.lt_of_lt_of_le hbl hB.size
   have hdl : decide ((k : Int) < (xs.length : Int)) = true := by simp; omega
   have HB := yh hB
   have HAT : Hid (msgFault xs[k] ≠ 0 → msgsFrom xs = msgFault xs[k]) := fun q => msgsFrom_at hlt (fun j hj => hz j (by omega) hj) q
   have HZ2 : Hid (msgFault xs[k] = 0 → ∀ j (hj : j < xs.length), j < k + 1 → msgFault xs[j] = 0) := by
    intro h0 j hj hjk
    by_cases hjk2 : j < k
    ·
     exact hz j hj hjk2
    obtain rfl : j = k := by omega
    exact h0
   clear hz hM R hB
   generalize msgFault xs[k] = f at *
   go_wp2_with fail
   refine (uh HL).mono ?_
   rintro e w2 ⟨rfl, hb⟩
   have HB2 := yh ((uh HB).trans (hb.mono (uh HB).size))
   clear hb HL HB
   by_cases hf : f = 0
   ·
    have HZ3 := yh (uh HZ2 hf)
    subst hf
    clear HZ2 HAT
    go_wp2_with fail
    go_roundw
    case rel => exact ⟨k + 1, by omega, by go_num, uh HZ3, uh HB2⟩
    case measure => simp [intOf]; omega
   have HA := yh ((uh HF).trans (uh HAT hf))
   have hd : (f != 0) = true := by simpa using hf
   clear HZ2 HAT hf
   go_wp2_with fail
   go_ret
   exact ⟨by rw [uh HA]; rfl, uh HB2⟩
  obtain rfl : k = xs.length := by omega
  have hdl : decide ((xs.length : Int) < (xs.length : Int)) = false := by simp
  have HA := yh ((uh HF).trans (msgsFrom_all fun x hx => by obtain ⟨j, hj, rfl⟩ := List.getElem_of_mem hx; exact hz j hj hj))
  have HB := yh hB
  clear hB hz
  go_wp2_with fail
  go_ret
  exact ⟨by rw [uh HA]; rfl, uh HB⟩
theorem l12FaultC (a3 : Option Addr) (d3 : Nat) (a4 : Option Addr) (d4 : Nat) (a5 : Option Addr) (d5 : Nat) (a6 : Option Addr) (d6 : Nat) (x : DWorld) (xb : Nat) (w : World) (hX : Box 0 #[.int .i64 x.now, .int .i64 x.events, .int .i64 x.chain.epoch, .slice a3 x.chain.ids.length d3, .slice a4 x.nodes.length d4, .slice a5 x.msgs.length d5, .slice a6 x.history.length d6] 36 w xb) (h : Lay.tWorld.Reads w [.int .i64 x.now, .int .i64 x.events, .int .i64 x.chain.epoch, .slice a3 x.chain.ids.length d3, .slice a4 x.nodes.length d4, .slice a5 x.msgs.length d5, .slice a6 x.history.length d6] x) :
  Calls Tryz.prog 95 #[.pointer (some ⟨xb, 0, none⟩)] w fun e w' => e = .returned (.int .i64 (worldFault x)) ∧ Below w.heap.size w w' := by
 have HX := yh hX
 have HR := yh h
 have HB := yh (Below.refl w.heap.size w)
 have HP : Hid (worldFault x = if (decide (0 ≤ x.now) && decide (x.now ≤ 9000)) = false ∨ (decide (0 ≤ x.events) && decide (x.events ≤ 9999)) = false then 3 else if chainFault x.chain ≠ 0 then chainFault x.chain
  else if x.nodes.length < 1 ∨ 5 < x.nodes.length then 2 else if nodesFault x ≠ 0 then nodesFault x else if netFault x.msgs ≠ 0 then netFault x.msgs
  else if 60 < x.history.length then 2 else if (x.history.drop 0).all (entryB x) = true then 0 else 3) := by
  have e1 : (¬ (0 ≤ x.now ∧ x.now ≤ 9000) ∨ ¬ (0 ≤ x.events ∧ x.events ≤ 9999)) ↔ ((decide (0 ≤ x.now) && decide (x.now ≤ 9000)) = false ∨ (decide (0 ≤ x.events) && decide (x.events ≤ 9999)) = false) := by
   simp only [Bool.and_eq_false_iff, decide_eq_false_iff_not]
   omega
  show worldFault x = _
  unfold worldFault
  by_cases h1 : (decide (0 ≤ x.now) && decide (x.now ≤ 9000)) = false ∨ (decide (0 ≤ x.events) && decide (x.events ≤ 9999)) = false
  ·
   rw [if_pos (e1.2 h1), if_pos h1]
  rw [if_neg (fun q => h1 (e1.1 q)), if_neg h1]
  rfl
 clear h hX
 generalize worldFault x = r at *
 have z0 := Box.at (uh HX) 0 _ rfl
 have z1 := Box.at (uh HX) 1 _ rfl
 have z2 := Box.at (uh HX) 2 _ rfl
 have z3 := Box.at (uh HX) 3 _ rfl
 have z4 := Box.at (uh HX) 4 _ rfl
 have z5 := Box.at (uh HX) 5 _ rfl
 have z6 := Box.at (uh HX) 6 _ rfl
 simp only [ga, gb, gc] at z0 z1 z2 z3 z4 z5 z6
 have xl := (uh HX).lt
 go_enter Tryz.func95, Tryz.ntmps95
 go_wp2_with fail
 refine (inC x.now 0 9000 w).mono ?_
 rintro e w2 ⟨rfl, h2⟩
 subst w2
 cases d1 : (decide (0 ≤ x.now) && decide (x.now ≤ 9000))
 ·
  replace HP := yh ((uh HP).trans (if_pos (Or.inl d1)))
  clear d1
  go_wp2_with fail
  go_ret
  exact ⟨by rw [uh HP]; rfl, uh HB⟩
 go_wp2_with fail
 refine (inC x.events 0 9999 w).mono ?_
 rintro e w2 ⟨rfl, h2⟩
 subst w2
 cases d2 : (decide (0 ≤ x.events) && decide (x.events ≤ 9999))
 ·
  replace HP := yh ((uh HP).trans (if_pos (Or.inr d2)))
  clear d1 d2
  go_wp2_with fail
  go_ret
  exact ⟨by rw [uh HP]; rfl, uh HB⟩
 replace HP := yh ((uh HP).trans (if_neg (by rw [d1, d2]; simp)))
 clear d1 d2
 go_wp2_with fail
 obtain ⟨_, _, _, _, _, _, _, _, hq, RC, -, -, -⟩ := open_World (uh HR)
 simp only [List.cons.injEq, Value.slice.injEq, and_true, true_and] at hq
 obtain ⟨⟨rfl, rfl⟩, ⟨rfl, rfl⟩, ⟨rfl, rfl⟩, rfl, rfl⟩ := hq
 obtain ⟨_, _, hq, RI⟩ := open_Chain RC
 simp only [List.cons.injEq, Value.slice.injEq, and_true, true_and] at hq
 obtain ⟨rfl, rfl⟩ := hq
 refine (l10FaultO xb 2 _ _ x.chain w ⟨(uh HX).at 2 _ rfl, (uh HX).at 3 _ rfl⟩ RI).mono ?_
 rintro e w2 ⟨rfl, h2⟩
 subst w2
 clear RC RI
 by_cases d3 : chainFault x.chain ≠ 0
 ·
  have hd : (chainFault x.chain != 0) = true := by simpa using d3
  replace HP := yh ((uh HP).trans (if_pos d3))
  clear d3
  generalize chainFault x.chain = c at *
  go_wp2_with fail
  go_ret
  exact ⟨by rw [uh HP]; rfl, uh HB⟩
 replace HP := yh ((uh HP).trans (if_neg d3))
 have hd : chainFault x.chain = 0 := by simpa using d3
 clear d3
 rw [hd]
 clear hd
 have hbn := (show x.nodes.length ≤ 9223372036854775807 from by
  obtain ⟨_, _, _, _, _, _, _, _, hq, -, RN, -, -⟩ := open_World (uh HR)
  exact RN.big)
 by_cases d4 : x.nodes.length < 1 ∨ 5 < x.nodes.length
 ·
  replace HP := yh ((uh HP).trans (if_pos d4))
  by_cases d5 : x.nodes.length < 1
  ·
   have hd : decide ((x.nodes.length : Int) < 1) = true := by simp; omega
   clear d4 d5
   go_wp2_with fail
   go_ret
   exact ⟨by rw [uh HP]; rfl, uh HB⟩
  have hd : decide ((x.nodes.length : Int) < 1) = false := by simp; omega
  have hd2 : decide ((5 : Int) < (x.nodes.length : Int)) = true := by simp; omega
  clear d4 d5
  go_wp2_with fail
  go_ret
  exact ⟨by rw [uh HP]; rfl, uh HB⟩
 replace HP := yh ((uh HP).trans (if_neg d4))
 have hd : decide ((x.nodes.length : Int) < 1) = false := by simp; omega
 have hd2 : decide ((5 : Int) < (x.nodes.length : Int)) = false := by simp; omega
 have hn5 : x.nodes.length ≤ 5 := by omega
 clear d4
 go_wp2_with fail
 refine (l12NodesC _ _ _ _ _ _ _ _ x xb w (uh HX) (uh HR)).mono ?_
 rintro e w4 ⟨rfl, hb⟩
 clear xl hn5 z0 z1 z2 z3 z4 z5 z6
 replace HX := yh ((uh HX).keep hb)
 replace HR := yh ((uh HR).later hb)
 replace HB := yh ((uh HB).trans (hb.mono (uh HB).size))
 clear hb
 have z0 := Box.at (uh HX) 0 _ rfl
 have z1 := Box.at (uh HX) 1 _ rfl
 have z2 := Box.at (uh HX) 2 _ rfl
 have z3 := Box.at (uh HX) 3 _ rfl
 have z4 := Box.at (uh HX) 4 _ rfl
 have z5 := Box.at (uh HX) 5 _ rfl
 have z6 := Box.at (uh HX) 6 _ rfl
 simp only [ga, gb, gc] at z0 z1 z2 z3 z4 z5 z6
 have xl := (uh HX).lt
 by_cases d3 : nodesFault x ≠ 0
 ·
  have hd : (nodesFault x != 0) = true := by simpa using d3
  replace HP := yh ((uh HP).trans (if_pos d3))
  clear d3
  generalize nodesFault x = c at *
  go_wp2_with fail
  go_ret
  exact ⟨by rw [uh HP]; rfl, uh HB⟩
 replace HP := yh ((uh HP).trans (if_neg d3))
 have hd : nodesFault x = 0 := by simpa using d3
 clear d3
 rw [hd]
 clear hd
 go_wp2_with fail
 obtain ⟨_, _, _, _, _, _, _, _, hq, -, -, RM, -⟩ := open_World (uh HR)
 simp only [List.cons.injEq, Value.slice.injEq, and_true, true_and] at hq
 obtain ⟨⟨rfl, rfl⟩, ⟨rfl, rfl⟩, ⟨rfl, rfl⟩, rfl, rfl⟩ := hq
 refine (l11FaultC _ x.msgs w4 RM).mono ?_
 rintro e w5 ⟨rfl, hb⟩
 clear RM xl z0 z1 z2 z3 z4 z5 z6
 replace HX := yh ((uh HX).keep hb)
 replace HR := yh ((uh HR).later hb)
 replace HB := yh ((uh HB).trans (hb.mono (uh HB).size))
 clear hb
 have z0 := Box.at (uh HX) 0 _ rfl
 have z1 := Box.at (uh HX) 1 _ rfl
 have z2 := Box.at (uh HX) 2 _ rfl
 have z3 := Box.at (uh HX) 3 _ rfl
 have z4 := Box.at (uh HX) 4 _ rfl
 have z5 := Box.at (uh HX) 5 _ rfl
 have z6 := Box.at (uh HX) 6 _ rfl
 simp only [ga, gb, gc] at z0 z1 z2 z3 z4 z5 z6
 have xl := (uh HX).lt
 by_cases d3 : netFault x.msgs ≠ 0
 ·
  have hd : (netFault x.msgs != 0) = true := by simpa using d3
  replace HP := yh ((uh HP).trans (if_pos d3))
  clear d3
  generalize netFault x.msgs = c at *
  go_wp2_with fail
  go_ret
  exact ⟨by rw [uh HP]; rfl, uh HB⟩
 replace HP := yh ((uh HP).trans (if_neg d3))
 have hd : netFault x.msgs = 0 := by simpa using d3
 clear d3
 rw [hd]
 clear hd
 obtain ⟨_, _, _, _, _, _, _, _, hq, -, -, -, RE⟩ := open_World (uh HR)
 simp only [List.cons.injEq, Value.slice.injEq, and_true, true_and] at hq
 obtain ⟨⟨rfl, rfl⟩, ⟨rfl, rfl⟩, ⟨rfl, rfl⟩, rfl, rfl⟩ := hq
 have HE := yh RE
 have hbig := RE.big
 clear RE
 by_cases d4 : 60 < x.history.length
 ·
  replace HP := yh ((uh HP).trans (if_pos d4))
  have hd : decide ((60 : Int) < (x.history.length : Int)) = true := by simp; omega
  clear d4
  go_wp2_with fail
  go_ret
  exact ⟨by rw [uh HP]; rfl, uh HB⟩
 replace HP := yh ((uh HP).trans (if_neg d4))
 have hd : decide ((60 : Int) < (x.history.length : Int)) = false := by simp; omega
 clear d4
 go_wp2_with fail
 clear z0 z1 z2 z3 z4 z5 z6 xl hd
 go_loopw [6] (fun i wr => ∃ k : Nat, k ≤ x.history.length ∧ i = .int .i64 k ∧ r = (if (x.history.drop k).all (entryB x) = true then 0 else 3) ∧ Below w5.heap.size w5 wr) (fun i _ => x.history.length - (intOf i).toNat)
 case atStart => exact ⟨0, Nat.zero_le _, rfl, uh HP, Below.refl _ _⟩
 case round =>
  obtain ⟨k, hk, rfl, hF, hB⟩ := hrel
  clear HP
  have hX2 := (uh HX).keep hB
  have y6 := Box.at hX2 6 _ rfl
  simp only [ga, gb, gc] at y6
  have xl := hX2.lt
  have HB3 := yh ((uh HB).trans (hB.mono (uh HB).size))
  by_cases hlt : k < x.history.length
  ·
   obtain ⟨b, off, rfl, hbl⟩ := Lay.sl_addr (uh HE) (by omega)
   obtain ⟨row, hcl, hr⟩ := Lay.row_at (uh HE) hlt
   rw [List.drop_eq_getElem_cons hlt, List.all_cons] at hF
   have hdl : decide ((k : Int) < (x.history.length : Int)) = true := by simp; omega
   have hrl := hr.len
   obtain ⟨aq, dq, av, dv, ah, dh, rfl, -⟩ := open_Entry hr
   have hE : RowIn #[.int .i64 (x.history[k]).kind, .int .i64 (x.history[k]).session, .int .i64 (x.history[k]).seq, .int .i64 (x.history[k]).id, .slice aq (x.history[k]).query.length dq, .int .i64 (x.history[k]).k, .int .i64 (x.history[k]).start, .int .i64 (x.history[k]).fin, .int .i64 (x.history[k]).place, .slice av (x.history[k]).vec.length dv, .slice ah (x.history[k]).hits.length dh] wr b (off + k * 11) := RowIn.ofRow (A := Lay.tEntry) (k := k) (fun m hm => (hB.cell (p := ⟨b, off + k * 11 + m, none⟩) hbl).trans (hcl m hm)) hrl (Nat.lt_of_lt_of_le hbl hB.size)
   have HL := yh (l12EntryC _ _ _ _ _ _ _ _ _ _ _ _ _ _ x _ xb b (off + k * 11) wr hX2 hE)
   have HF := yh hF
   have HBQ := yh hB
   clear hF hX2 hB hr hrl hcl hE
   generalize x.history[k] = z at *
   go_wp2_with fail
   refine (uh HL).mono ?_
   rintro e w5 ⟨rfl, hb⟩
   replace HB3 := yh ((uh HB3).trans (hb.mono (uh HB3).size))
   replace HBQ := yh ((uh HBQ).trans (hb.mono (uh HBQ).size))
   clear HL hb y6
   generalize entryB x z = q at *
   cases q
   ·
    replace HF := yh ((uh HF).trans (if_neg (by simp)))
    go_wp2_with fail
    go_ret
    exact ⟨by rw [uh HF]; rfl, uh HB3⟩
   rw [Bool.true_and] at HF
   go_wp2_with fail
   go_roundw
   case rel => exact ⟨k + 1, by omega, by go_num, uh HF, uh HBQ⟩
   case measure => simp [intOf]; omega
  obtain rfl : k = x.history.length := by omega
  rw [List.drop_length, List.all_nil, if_pos rfl] at hF
  have hdl : decide ((x.history.length : Int) < (x.history.length : Int)) = false := by simp
  have HF := yh hF
  clear hF hB hX2
  go_wp2_with fail
  go_ret
  exact ⟨by rw [uh HF]; rfl, uh HB3⟩
theorem isNodeIdC (n : Int) (w : World) :
  Calls Tryz.prog 240 #[.int .i64 n] w fun e w' => e = .returned (.bool (decide (1 ≤ n) && decide (n ≤ 5))) ∧ w' = w := by
 by_cases h1 : 1 ≤ n
 ·
  have d1 : decide (1 ≤ n) = true := by simpa using h1
  rw [d1]
  cases d2 : decide (n ≤ 5) <;>
  ·
   go_enter Tryz.func240, Tryz.ntmps240
   go_wp2_with fail
   go_ret
   exact ⟨rfl, rfl⟩
 have d1 : decide (1 ≤ n) = false := by simpa using h1
 rw [d1]
 go_enter Tryz.func240, Tryz.ntmps240
 go_wp2_with fail
 go_ret
 exact ⟨rfl, rfl⟩
theorem isChainEpochC (n : Int) (w : World) :
  Calls Tryz.prog 224 #[.int .i64 n] w fun e w' => e = .returned (.bool (decide (1 ≤ n) && decide (n ≤ 999))) ∧ w' = w := by
 by_cases h1 : 1 ≤ n
 ·
  have d1 : decide (1 ≤ n) = true := by simpa using h1
  rw [d1]
  cases d2 : decide (n ≤ 999) <;>
  ·
   go_enter Tryz.func224, Tryz.ntmps224
   go_wp2_with fail
   go_ret
   exact ⟨rfl, rfl⟩
 have d1 : decide (1 ≤ n) = false := by simpa using h1
 rw [d1]
 go_enter Tryz.func224, Tryz.ntmps224
 go_wp2_with fail
 go_ret
 exact ⟨rfl, rfl⟩
theorem part_reads {w : World} {b off cap : Nat} {zs : List Int} (h : (Lay.sl Lay.int).Reads w [.slice (some ⟨b, off, none⟩) zs.length cap] zs) (m n c : Nat) (hm : m + n ≤ zs.length) (hc : n ≤ c) :
  (Lay.sl Lay.int).Reads w [.slice (some ⟨b, off + m, none⟩) n c] ((zs.drop m).take n) := by
 have hi := Lay.ints_reads h
 have hbig := h.big
 obtain ⟨ao, cp, e, hwf, hcs⟩ := hi
 have hlen : ((zs.drop m).take n).length = n := by simp; omega
 refine Lay.reads_ints ?_ (fun ao' cap' e' => ?_) (by rw [hlen]; omega)
 ·
  refine ⟨_, c, by rw [hlen], fun z hz => hwf z (List.mem_of_mem_drop (List.mem_of_mem_take hz)), fun hp => ⟨b, off + m, rfl, fun j hj => ?_⟩⟩
  rw [hlen] at hp hj
  obtain ⟨b', off', hao, hc1⟩ := hcs (by omega)
  simp only [Value.slice.injEq] at e
  obtain ⟨rfl, -, -⟩ := e
  simp only [Option.some.injEq, Addr.mk.injEq, and_true] at hao
  obtain ⟨rfl, rfl⟩ := hao
  rw [Nat.add_assoc, hc1 (m + j) (by omega)]
  simp only [List.getD]
  rw [List.getElem?_take, if_pos hj, List.getElem?_drop]
 simp only [Value.slice.injEq] at e'
 rw [hlen]
 omega
theorem take_reads {w : World} {ao : Option Addr} {n cap : Nat} {zs : List Int} (h : (Lay.sl Lay.int).Reads w [.slice ao n cap] zs) (k : Nat) (hk : k ≤ zs.length) :
  (Lay.sl Lay.int).Reads w [.slice ao k cap] (zs.take k) := by
 have hc := h.cap
 by_cases h0 : k = 0
 ·
  subst h0
  rw [List.take_zero]
  exact Lay.reads_ints ⟨ao, cap, rfl, by simp, fun hp => by simp at hp⟩ (fun _ _ _ => by simp) (by simp)
 have hi := Lay.ints_reads h
 obtain ⟨ao', cp, e, hwf, hcs⟩ := hi
 obtain ⟨b', off', hao, hc1⟩ := hcs (by omega)
 simp only [Value.slice.injEq] at e
 obtain ⟨rfl, rfl, rfl⟩ := e
 subst hao
 have := part_reads h 0 k cap (by omega) (by omega)
 simpa using this
theorem isNodeCountC (n : Int) (w : World) :
  Calls Tryz.prog 226 #[.int .i64 n] w fun e w' => e = .returned (.bool (decide (1 ≤ n) && decide (n ≤ 5))) ∧ w' = w := by
 by_cases h1 : 1 ≤ n
 ·
  have d1 : decide (1 ≤ n) = true := by simpa using h1
  rw [d1]
  cases d2 : decide (n ≤ 5) <;>
  ·
   go_enter Tryz.func226, Tryz.ntmps226
   go_wp2_with fail
   go_ret
   exact ⟨rfl, rfl⟩
 have d1 : decide (1 ≤ n) = false := by simpa using h1
 rw [d1]
 go_enter Tryz.func226, Tryz.ntmps226
 go_wp2_with fail
 go_ret
 exact ⟨rfl, rfl⟩
theorem indexI (v : Value) (ids : List Int) (id : Int) (w : World) (R : (Lay.sl Lay.int).Reads w [v] ids) :
  Calls Tryz.prog 236 #[v, .int .i64 id] w fun e w' => e = .returned (.int .i64 (placeC ids id)) ∧ w' = w := by
 obtain ⟨ao, cap, rfl⟩ := open_sl R
 have hbig := R.big
 have H := yh R
 clear R
 go_enter Tryz.func236, Tryz.ntmps236
 go_wp2_with fail
 go_loop [8] (fun i => ∃ k : Nat, k ≤ ids.length ∧ i = .int .i64 k ∧ (∀ j (hj : j < ids.length), j < k → ids[j] ≠ id)) (fun i => ids.length - (intOf i).toNat)
 case atStart => exact ⟨0, Nat.zero_le _, rfl, fun j _ h => by omega⟩
 case round =>
  obtain ⟨k, hk, rfl, hz⟩ := hrel
  by_cases hlt : k < ids.length
  ·
   obtain ⟨b2, off, rfl, -⟩ := Lay.sl_addr (uh H) (by omega)
   have c1 := int_cell (uh H) hlt
   cases hq : (id == ids[k])
   ·
    have HZ : Hid (∀ j (hj : j < ids.length), j < k + 1 → ids[j] ≠ id) := fun j hj hjk => by
     by_cases h2 : j < k
     ·
      exact hz j hj h2
     obtain rfl : j = k := by omega
     intro h3
     rw [h3] at hq
     simp at hq
    clear hz
    generalize ids[k] = z at *
    go_wp2_with fail
    go_round
    case rel => exact ⟨k + 1, by omega, by go_num, uh HZ⟩
    case measure => simp [intOf]; omega
   have HP := yh (placeC_at hlt (beq_iff_eq.1 hq).symm (fun j hj => hz j (by omega) hj))
   clear hz
   generalize ids[k] = z at *
   go_wp2_with fail
   go_ret
   exact ⟨by rw [uh HP]; rfl, rfl⟩
  obtain rfl : k = ids.length := by omega
  have HP := yh (placeC_none (id := id) (fun j hj => hz j hj hj))
  clear hz
  go_wp2_with fail
  go_ret
  exact ⟨by rw [uh HP]; rfl, rfl⟩
theorem containsI (v : Value) (ids : List Int) (id : Int) (w : World) (R : (Lay.sl Lay.int).Reads w [v] ids) :
  Calls Tryz.prog 241 #[v, .int .i64 id] w fun e w' => e = .returned (.bool (decide (0 ≤ placeC ids id))) ∧ w' = w := by
 have HL := yh (indexI v ids id w R)
 obtain ⟨ao, cap, rfl⟩ := open_sl R
 generalize placeC ids id = n at *
 clear R
 go_enter Tryz.func241, Tryz.ntmps241
 go_wp2_with fail
 refine (uh HL).mono ?_
 rintro e w1 ⟨rfl, h1⟩
 subst w1
 clear HL
 go_wp2_with fail
 go_ret
 exact ⟨rfl, rfl⟩
def idsFaultP (ids : List Int) : Int := if 1 ≤ ids.length ∧ ids.length ≤ 5 then idsF [] ids else 2
theorem idsFaultP_many {ids : List Int} (h : (decide (1 ≤ (ids.length : Int)) && decide ((ids.length : Int) ≤ 5)) = false) : idsFaultP ids = 2 := by
 rw [idsFaultP, if_neg]
 intro h2
 rw [decide_eq_true (by omega), decide_eq_true (by omega)] at h
 simp at h
theorem idsFaultP_few {ids : List Int} (h : (decide (1 ≤ (ids.length : Int)) && decide ((ids.length : Int) ≤ 5)) = true) : idsFaultP ids = idsF (ids.take 0) (ids.drop 0) := by
 rw [idsFaultP, if_pos]
 ·
  simp
 simp at h
 omega
theorem mem_place (ids : List Int) (z : Int) : decide (0 ≤ placeC ids z) = true ↔ z ∈ ids := by
 have h := placeC_neg ids z
 rw [decide_eq_true_iff]
 constructor
 ·
  intro h1
  refine Decidable.byContradiction fun h2 => ?_
  have := h.2 h2
  omega
 intro h1
 refine Decidable.byContradiction fun h2 => ?_
 exact h.1 (by omega) h1
theorem idsFaultC (v : Value) (ids : List Int) (w : World) (R : (Lay.sl Lay.int).Reads w [v] ids) :
  Calls Tryz.prog 225 #[v] w fun e w' => e = .returned (.int .i64 (idsFaultP ids)) ∧ w' = w := by
 obtain ⟨ao, cap, rfl⟩ := open_sl R
 have hbig := R.big
 have hcap := R.cap
 have H := yh R
 clear R
 go_enter Tryz.func225, Tryz.ntmps225
 go_wp2_with fail
 refine (isNodeCountC (ids.length : Int) w).mono ?_
 rintro e w1 ⟨rfl, h1⟩
 subst w1
 cases d1 : (decide (1 ≤ (ids.length : Int)) && decide ((ids.length : Int) ≤ 5))
 ·
  have HF := yh (idsFaultP_many d1)
  clear d1
  go_wp2_with fail
  go_ret
  exact ⟨by rw [uh HF]; rfl, rfl⟩
 have HF := yh (idsFaultP_few d1)
 clear d1
 go_wp2_with fail
 go_loop [11] (fun i => ∃ k : Nat, k ≤ ids.length ∧ i = .int .i64 k ∧ idsFaultP ids = idsF (ids.take k) (ids.drop k)) (fun i => ids.length - (intOf i).toNat)
 case atStart => exact ⟨0, Nat.zero_le _, rfl, uh HF⟩
 case round =>
  obtain ⟨k, hk, rfl, hz⟩ := hrel
  clear HF
  by_cases hlt : k < ids.length
  ·
   rw [idsF_step ids k hlt] at hz
   obtain ⟨b2, off, rfl, -⟩ := Lay.sl_addr (uh H) (by omega)
   have c1 := int_cell (uh H) hlt
   have HC := yh (containsI (.slice (some ⟨b2, off, none⟩) k cap) (ids.take k) ids[k] w (take_reads (uh H) k (by omega)))
   have HM := yh (mem_place (ids.take k) ids[k])
   have hdl : decide ((k : Int) < (ids.length : Int)) = true := by simp; omega
   have HZ := yh hz
   have hkc : k ≤ cap := by omega
   clear hz
   generalize ids[k] = z at *
   generalize ids.take k = zk at *
   go_wp2_with fail
   refine (isNodeIdC z w).mono ?_
   rintro e w1 ⟨rfl, h1⟩
   subst w1
   cases d2 : (decide (1 ≤ z) && decide (z ≤ 5))
   ·
    have hz := uh HZ
    rw [if_neg (by intro h; simp at d2; omega)] at hz
    have HF := yh hz
    clear hz HZ d2
    go_wp2_with fail
    go_ret
    exact ⟨by rw [uh HF]; rfl, rfl⟩
   have hz := uh HZ
   rw [if_pos (by simpa using d2)] at hz
   clear HZ d2
   have HZ := yh hz
   clear hz
   go_wp2_with fail
   refine (uh HC).mono ?_
   rintro e w1 ⟨rfl, h1⟩
   subst w1
   cases d3 : decide (0 ≤ placeC zk z)
   ·
    have hz := uh HZ
    rw [if_neg (fun hm => by rw [(uh HM).2 hm] at d3; simp at d3)] at hz
    have HF := yh hz
    clear hz HZ d3 HM HC
    go_wp2_with fail
    go_round
    case rel => exact ⟨k + 1, by omega, by go_num, uh HF⟩
    case measure => simp [intOf]; omega
   have hz := uh HZ
   rw [if_pos ((uh HM).1 d3)] at hz
   have HF := yh hz
   clear hz HZ d3 HM HC
   go_wp2_with fail
   go_ret
   exact ⟨by rw [uh HF]; rfl, rfl⟩
  obtain rfl : k = ids.length := by omega
  rw [idsF_end] at hz
  have HF := yh hz
  clear hz
  go_wp2_with fail
  go_ret
  exact ⟨by rw [uh HF]; rfl, rfl⟩
theorem cfi_out {x : DChain} (h : (decide (1 ≤ x.epoch) && decide (x.epoch ≤ 999)) = false) : chainFault x = 3 := by rw [chainFault, if_neg (by simp at h; omega)]
theorem cfi_ids {x : DChain} (h : (decide (1 ≤ x.epoch) && decide (x.epoch ≤ 999)) = true) : chainFault x = idsFaultP x.ids := by rw [chainFault, if_pos (by simp at h; omega), idsFaultP]
theorem implChainFault (cs : List Value) (x : DChain) (w : World) (h : Lay.tChain.Reads w cs x) :
  Calls Tryz.prog 156 #[.agg cs.toArray] w fun e w' => e = .returned (.int .i64 (chainFault x)) ∧ Below w.heap.size w w' := by
 obtain ⟨a, d, rfl, R⟩ := open_Chain h
 have nb : Below w.heap.size w (w.alloc (.cells #[.int .i64 x.epoch, .slice a x.ids.length d] 31)) := (Below.refl _ _).alloc (Nat.le_refl _) _
 have HR := yh (R.later nb)
 have HB := yh nb
 have HX : Hid (Box 0 #[.int .i64 x.epoch, .slice a x.ids.length d] 31 (w.alloc (.cells #[.int .i64 x.epoch, .slice a x.ids.length d] 31)) w.heap.size) := newBox (Nat.zero_le _)
 clear R h nb
 go_enter Tryz.func156, Tryz.ntmps156
 go_upto_region 1 with fail
 generalize w.alloc (.cells #[.int .i64 x.epoch, .slice a x.ids.length d] 31) = W at *
 have z0 : W.cell? ⟨w.heap.size, 0, none⟩ = some (.int .i64 x.epoch) := (uh HX).at 0 _ rfl
 have z1 : W.cell? ⟨w.heap.size, 1, none⟩ = some (.slice a x.ids.length d) := (uh HX).at 1 _ rfl
 clear HX
 cases d1 : (decide (1 ≤ x.epoch) && decide (x.epoch ≤ 999))
 ·
  have HF := yh (cfi_out d1)
  have L := yh (isChainEpochC x.epoch W)
  rw [d1] at L
  clear d1
  go_wp2_with fail
  refine (uh L).mono ?_
  rintro e w1 ⟨rfl, h1⟩
  subst w1
  clear L
  go_wp2_with fail
  go_ret
  exact ⟨by rw [uh HF]; rfl, uh HB⟩
 have HF := yh (cfi_ids d1)
 have L := yh (isChainEpochC x.epoch W)
 rw [d1] at L
 clear d1
 go_wp2_with fail
 refine (uh L).mono ?_
 rintro e w1 ⟨rfl, h1⟩
 subst w1
 clear L
 have L := yh (idsFaultC _ x.ids _ (uh HR))
 go_wp2_with fail
 refine (uh L).mono ?_
 rintro e w1 ⟨rfl, h1⟩
 subst w1
 clear L
 go_wp2_with fail
 go_ret
 exact ⟨by rw [uh HF]; rfl, uh HB⟩
theorem isUpToC (n m : Int) (w : World) :
  Calls Tryz.prog 155 #[.int .i64 n, .int .i64 m] w fun e w' => e = .returned (.bool (decide (0 ≤ n) && decide (n ≤ m))) ∧ w' = w := by
 by_cases h1 : 0 ≤ n
 ·
  have d1 : decide (0 ≤ n) = true := by simpa using h1
  rw [d1]
  cases d2 : decide (n ≤ m) <;>
  ·
   go_enter Tryz.func155, Tryz.ntmps155
   go_wp2_with fail
   go_ret
   exact ⟨rfl, rfl⟩
 have d1 : decide (0 ≤ n) = false := by simpa using h1
 rw [d1]
 go_enter Tryz.func155, Tryz.ntmps155
 go_wp2_with fail
 go_ret
 exact ⟨rfl, rfl⟩
end Go.Proofs.YtoanimpijfijgaaGreat

namespace Go.Proofs.YtoanimpijfijgaaGreat
open Go.RowKit Go.Maps
def tick (s q : Int) : Value := .agg #[.int .i64 s, .int .i64 q]
theorem tickLaid : laidOutB Tryz.prog = true := by kernel_rfl
theorem tickRow : (139 : TypeId) < Tryz.prog.types.size := of_decide_eq_true (by kernel_rfl)
theorem tickWide : (match Tryz.prog.underlying 139 with | some (.array _ _) | some (.struct _) => true | _ => false) = true := by kernel_rfl
theorem tickKeyed : Keyed Tryz.prog 139 := Keyed.of_law (deep_law_laid tickLaid (m := 2) (by omega) tickRow (by kernel_rfl) tickWide)
theorem tickKey {s q : Int} (hs : (Lit.int .i64 s).wf = true) (hq : (Lit.int .i64 q).wf = true) : keyOf Tryz.prog 139 (tick s q) = some (.string (keyBytes [.int .i64 s, .int .i64 q])) := by
 have hk : Tryz.prog.keyType 139 = true := by kernel_rfl
 have hc : Tryz.prog.cellsOf 139 = 2 := by kernel_rfl
 have hc1 : Tryz.prog.cellsOf 2 = 1 := by kernel_rfl
 have hf : (tick s q).formed Tryz.prog 139 = true := by simp [tick, Value.formed, Tryz.underlying139, hc]
 obtain ⟨m, hm⟩ : ∃ m, Tryz.prog.types.size = m + 1 := ⟨_, (Nat.succ_pred_eq_of_pos (Nat.lt_of_le_of_lt (Nat.zero_le _) tickRow)).symm⟩
 unfold keyOf
 simp only [Tryz.underlying139]
 rw [if_pos (by rw [hk, hf]; rfl), hm]
 unfold Program.keyLits
 simp only [Tryz.underlying139, tick, Value.cells]
 simp [hc, hc1, Program.keyLits, Tryz.underlying2, hs, hq]
theorem tickZero (w : World) : (zeroValue 2).run Tryz.prog w = .ok (.int .i64 0) w := by kernel_rfl
def Ticks (w : World) (b n : Nat) (f : Int → Int → Nat) : Prop := ∃ D : DataW Unit, w.ownsMap Tryz.prog 139 (plainElem Tryz.prog 2) b n D ∧
 ∀ s q, (Lit.int .i64 s).wf = true → (Lit.int .i64 q).wf = true → Maps.has D (.string (keyBytes [.int .i64 s, .int .i64 q])) = decide (f s q ≠ 0) ∧ D.atKey (.string (keyBytes [.int .i64 s, .int .i64 q])) (.lit (.int .i64 0)) = .lit (.int .i64 (f s q))
theorem Ticks.ext {S : Nat → Prop} {w w' : World} {b n : Nat} {f : Int → Int → Nat} (h : Ticks w b n f) (e : Ext S w w') (hb : ¬ S b) : Ticks w' b n f := by
 obtain ⟨D, h, r⟩ := h
 have hlt := World.ownsMap.lt h
 obtain ⟨es, clock, hb', r'⟩ := h
 exact ⟨D, ⟨es, clock, (e.block b hlt hb).trans hb', r'⟩, r⟩
theorem Ticks.lt {w : World} {b n : Nat} {f : Int → Int → Nat} (h : Ticks w b n f) : b < w.heap.size := by
 obtain ⟨D, h, -⟩ := h
 exact World.ownsMap.lt h
theorem Ticks.mono {w : World} {b n n' : Nat} {f : Int → Int → Nat} (h : Ticks w b n f) (hn : n ≤ n') : Ticks w b n' f := by
 obtain ⟨D, h, r⟩ := h
 exact ⟨D, World.ownsMap.mono h hn, r⟩
theorem Ticks.congr {w : World} {b n : Nat} {f g : Int → Int → Nat} (h : Ticks w b n f) (e : ∀ s q, f s q = g s q) : Ticks w b n g := by
 obtain ⟨D, h, r⟩ := h
 exact ⟨D, h, fun s q hs hq => by rw [← e]; exact r s q hs hq⟩
theorem Ticks.look {w : World} {b n : Nat} {f : Int → Int → Nat} (h : Ticks w b n f) {s q : Int} (hs : (Lit.int .i64 s).wf = true) (hq : (Lit.int .i64 q).wf = true) :
  (Instr.lookup 275 (.map (some b)) (tick s q) true).run Tryz.prog w = .ok (.tuple #[.int .i64 (f s q), .bool (decide (f s q ≠ 0))]) w := by
 obtain ⟨D, h, r⟩ := h
 obtain ⟨r1, r2⟩ := r s q hs hq
 obtain ⟨v, ps, hrun, hv⟩ := World.ownsMap.look_ok h tickKeyed Tryz.underlying275 (tickZero w) (plainElem_int Tryz.underlying2 (by decide)) (tickKey hs hq)
 rw [r2] at hv
 obtain ⟨c, rfl, hc, -⟩ := plainElem_int_inv Tryz.underlying2 hv
 rw [r1] at hrun
 simp only [Prod.mk.injEq, DataW.lit.injEq, Lit.int.injEq, true_and] at hc
 rw [hc.1]
 exact hrun
theorem Ticks.put {w : World} {b n : Nat} {f : Int → Int → Nat} (h : Ticks w b n f) (hn : n < 100000) {s q : Int} (hs : (Lit.int .i64 s).wf = true) (hq : (Lit.int .i64 q).wf = true) {m : Nat} (hm : m ≠ 0) (hw : (Lit.int .i64 (m : Int)).wf = true) :
  ∃ w', (Instr.mapUpdate 275 (.map (some b)) (tick s q) (.int .i64 m)).run Tryz.prog w = .ok () w' ∧ Ticks w' b (n + 1) (fun s' q' => if s' = s ∧ q' = q then m else f s' q') ∧ Ext (fun c => c = b) w w' := by
 obtain ⟨D, h, r⟩ := h
 obtain ⟨w', h1, h2, h3⟩ := World.ownsMap.store h tickKeyed Tryz.underlying275 (by unfold maxLen; omega) (tickKey hs hq) (plainElem_int Tryz.underlying2 hw)
 refine ⟨w', h1, ⟨_, h2, fun s' q' hs' hq' => ?_⟩, ?_⟩
 ·
  have hk : WideAt.IsKeyLit (.string (keyBytes [.int .i64 s, .int .i64 q])) := trivial
  by_cases e : s' = s ∧ q' = q
  ·
   obtain ⟨rfl, rfl⟩ := e
   rw [Maps.has_put_same (World.ownsMap.isMap h) hk, Maps.atKey_put_same (World.ownsMap.isMap h) hk]
   simp [hm]
  have hne : Lit.string (keyBytes [.int .i64 s', .int .i64 q']) ≠ Lit.string (keyBytes [.int .i64 s, .int .i64 q]) := by
   intro e2
   have k1 := tickKey hs' hq'
   rw [e2] at k1
   have k2 := tickKeyed.inj k1 (tickKey hs hq)
   simp only [tick, Value.agg.injEq, Array.mk.injEq, List.cons.injEq, Value.int.injEq, true_and, and_true] at k2
   exact e k2
  rw [Maps.has_put_other hne, Maps.atKey_put_other hne]
  simp only [if_neg e]
  exact r s' q' hs' hq'
 have g := h3.grown
 obtain ⟨es, clock, es', clock', hb, rfl⟩ := h3
 exact ⟨rfl, rfl, rfl, by simp [ChangeMaps.setBlock], fun k hk hn => g.block k hk (fun e => hn (by simpa using e))⟩
theorem ticks_new (w : World) : Ticks (w.alloc (.map #[] 0)) w.heap.size 0 (fun _ _ => 0) := ⟨.map [], World.ownsMap_made w _ _ _, fun _ _ _ _ => ⟨rfl, rfl⟩⟩
end Go.Proofs.YtoanimpijfijgaaGreat

namespace Go.Proofs.YtoanimpijfijgaaGreat
open Go.RowKit
def tcells (v : Value) (mb : Nat) (f : Int → Int) : Array Value := #[v, .map (some mb), .int .i64 (f 0), .int .i64 (f 1), .int .i64 (f 2), .int .i64 (f 3), .int .i64 (f 4), .int .i64 (f 5), .int .i64 (f 6), .int .i64 (f 7), .int .i64 (f 8), .int .i64 (f 9)]
theorem tcells_at (v : Value) (mb : Nat) (f : Int → Int) (i : Nat) (h : i < 10) : (tcells v mb f)[2 + i]? = some (.int .i64 (f i)) := by
 match i, h with
 | 0, _ => rfl
 | 1, _ => rfl
 | 2, _ => rfl
 | 3, _ => rfl
 | 4, _ => rfl
 | 5, _ => rfl
 | 6, _ => rfl
 | 7, _ => rfl
 | 8, _ => rfl
 | 9, _ => rfl
theorem tcells_set (v : Value) (mb : Nat) (f : Int → Int) (i : Nat) (h : i < 10) (z : Int) : (tcells v mb f).setIfInBounds (2 + i) (.int .i64 z) = tcells v mb (fun j => if j = i then z else f j) := by
 match i, h with
 | 0, _ => rfl
 | 1, _ => rfl
 | 2, _ => rfl
 | 3, _ => rfl
 | 4, _ => rfl
 | 5, _ => rfl
 | 6, _ => rfl
 | 7, _ => rfl
 | 8, _ => rfl
 | 9, _ => rfl
theorem frozen_of_block {w w' : World} {b : Nat} (h : w'.heap[b]? = w.heap[b]?) (o : Nat) : w'.frozen? ⟨b, o, none⟩ = w.frozen? ⟨b, o, none⟩ := by
 unfold World.frozen?
 simp only [h]
structure Told0 (w : World) (p mb N n : Nat) (ws : List DWrite) (f : Int → Int) (g : Int → Int → Nat) (v : Value) (rows : List (List Value)) (bls : List (List Nat)) : Prop where
 lt : mb < p
 box : Box 0 (tcells v mb f) 278 w p
 grow : Grow Lay.tWrite w (p + 1) 87 v rows ws bls
 sub : ∀ b ∈ bls.flatten, p + 1 ≤ b ∧ ∀ o, w.frozen? ⟨b, o, none⟩ = false
 nd : bls.flatten.Nodup
 seen : Ticks w mb n g
 hiB : ∀ b ∈ bls.flatten, b < N
 hiV : ∀ b, v.ownBlock = some b → b < N
 pN : p < N
namespace Told0
variable {w w' : World} {p mb N n : Nat} {ws : List DWrite} {f : Int → Int} {g : Int → Int → Nat} {v : Value} {rows : List (List Value)} {bls : List (List Nat)}
theorem kept (h : Told0 w p mb N n ws f g v rows bls) {S : Nat → Prop} (e : Ext S w w') (hS : ∀ c, mb ≤ c → c < w.heap.size → ¬ S c) : Told0 w' p mb N n ws f g v rows bls := by
 have hs : ∀ b ∈ bls.flatten, w'.heap[b]? = w.heap[b]? := fun b hb => e.block b (h.grow.sub_lt b hb) (hS b (by have := (h.sub b hb).1; have := h.lt; omega) (h.grow.sub_lt b hb))
 refine ⟨h.lt, h.box.ext e (hS p (Nat.le_of_lt h.lt) h.box.lt), h.grow.kept ?_ hs, fun b hm => ⟨(h.sub b hm).1, fun o => (frozen_of_block (hs b hm) o).trans ((h.sub b hm).2 o)⟩, h.nd, h.seen.ext e (hS mb (Nat.le_refl _) h.seen.lt), h.hiB, h.hiV, h.pN⟩
 obtain ⟨h1, h2⟩ := h.grow.own
 refine ⟨h1, ?_⟩
 rcases h2 with h2 | ⟨gb, cap, cur, hv, hg, hh, r⟩
 ·
  exact Or.inl h2
 exact Or.inr ⟨gb, cap, cur, hv, hg, (e.block gb (lt_of_block hh) (hS gb (by have := h.lt; omega) (lt_of_block hh))).trans hh, r⟩
theorem later (h : Told0 w p mb N n ws f g v rows bls) (hb : Below w.heap.size w w') : Told0 w' p mb N n ws f g v rows bls := h.kept (ext_of_below hb (fun _ => False)) (fun _ _ _ e => e)
theorem raise (h : Told0 w p mb N n ws f g v rows bls) {N' : Nat} (hN : N ≤ N') : Told0 w p mb N' n ws f g v rows bls :=
 ⟨h.lt, h.box, h.grow, h.sub, h.nd, h.seen, fun b hb => Nat.lt_of_lt_of_le (h.hiB b hb) hN, fun b hb => Nat.lt_of_lt_of_le (h.hiV b hb) hN, Nat.lt_of_lt_of_le h.pN hN⟩
theorem top (h : Told0 w p mb N n ws f g v rows bls) : Told0 w p mb w.heap.size n ws f g v rows bls :=
 ⟨h.lt, h.box, h.grow, h.sub, h.nd, h.seen, fun b hb => h.grow.sub_lt b hb, fun b hb => (h.grow.own.lt b hb).2, h.box.lt⟩
theorem added (h : Told0 w p mb N n ws f g v rows bls) {v' : Value} {rows' : List (List Value)} {ws' : List DWrite} {bls' : List (List Nat)} (hG : Grow Lay.tWrite w' (p + 1) 87 v' rows' ws' bls') (hE : Ext (fun q => v.ownBlock = some q) w w') (hs : ∀ b ∈ bls'.flatten, p + 1 ≤ b ∧ ∀ o, w'.frozen? ⟨b, o, none⟩ = false) (hnd : bls'.flatten.Nodup) :
  Told0 (w'.setCell ⟨p, 0, none⟩ v') p mb (w'.setCell ⟨p, 0, none⟩ v').heap.size n ws' f g v' rows' bls' := by
 have hb : Box 0 (tcells v mb f) 278 w' p := h.box.ext hE (fun e => by have := (h.grow.own.lt p e).1; omega)
 have hb2 : Box 0 (tcells v' mb f) 278 (w'.setCell ⟨p, 0, none⟩ v') p := hb.set 0 v'
 have e2 : Ext (fun c => c = p) w' (w'.setCell ⟨p, 0, none⟩ v') := (Ext.refl (fun c => c = p) w').setCell ⟨p, 0, none⟩ v' rfl
 have hk : ∀ b ∈ bls'.flatten, (w'.setCell ⟨p, 0, none⟩ v').heap[b]? = w'.heap[b]? := fun b hb => e2.block b (hG.sub_lt b hb) (by have := (hs b hb).1; omega)
 have hG2 : Grow Lay.tWrite (w'.setCell ⟨p, 0, none⟩ v') (p + 1) 87 v' rows' ws' bls' := hG.kept (own_setC (a := ⟨p, 0, none⟩) hG.own (by simp) v') hk
 refine ⟨h.lt, hb2, hG2, fun b hm => ⟨(hs b hm).1, fun o => (frozen_of_block (hk b hm) o).trans ((hs b hm).2 o)⟩, hnd, ?_, fun b hm => hG2.sub_lt b hm, fun b hm => (hG2.own.lt b hm).2, hb2.lt⟩
 exact (h.seen.ext hE (fun e => by have := (h.grow.own.lt mb e).1; have := h.lt; omega)).ext e2 (by have := h.lt; omega)
theorem marked (h : Told0 w p mb N n ws f g v rows bls) {n' : Nat} {g' : Int → Int → Nat} (hE : Ext (fun c => c = mb) w w') (hT : Ticks w' mb n' g') : Told0 w' p mb N n' ws f g' v rows bls := by
 have hs : ∀ b ∈ bls.flatten, w'.heap[b]? = w.heap[b]? := fun b hb => hE.block b (h.grow.sub_lt b hb) (by have := (h.sub b hb).1; have := h.lt; omega)
 refine ⟨h.lt, h.box.ext hE (by have := h.lt; omega), h.grow.kept ?_ hs, fun b hm => ⟨(h.sub b hm).1, fun o => (frozen_of_block (hs b hm) o).trans ((h.sub b hm).2 o)⟩, h.nd, hT, h.hiB, h.hiV, h.pN⟩
 obtain ⟨h1, h2⟩ := h.grow.own
 refine ⟨h1, ?_⟩
 rcases h2 with h2 | ⟨gb, cap, cur, hv, hg, hh, r⟩
 ·
  exact Or.inl h2
 exact Or.inr ⟨gb, cap, cur, hv, hg, (hE.block gb (lt_of_block hh) (by have := h.lt; omega)).trans hh, r⟩
theorem lasted (h : Told0 w p mb N n ws f g v rows bls) (i : Nat) (hi : i < 10) (z : Int) : Told0 (w.setCell ⟨p, 2 + i, none⟩ (.int .i64 z)) p mb N n ws (fun j => if j = i then z else f j) g v rows bls := by
 have e2 : Ext (fun c => c = p) w (w.setCell ⟨p, 2 + i, none⟩ (.int .i64 z)) := (Ext.refl (fun c => c = p) w).setCell ⟨p, 2 + i, none⟩ _ rfl
 have hs : ∀ b ∈ bls.flatten, (w.setCell ⟨p, 2 + i, none⟩ (.int .i64 z)).heap[b]? = w.heap[b]? := fun b hb => e2.block b (h.grow.sub_lt b hb) (by have := (h.sub b hb).1; omega)
 refine ⟨h.lt, ?_, h.grow.kept (own_setC (a := ⟨p, 2 + i, none⟩) h.grow.own (by simp) _) hs, fun b hm => ⟨(h.sub b hm).1, fun o => (frozen_of_block (hs b hm) o).trans ((h.sub b hm).2 o)⟩, h.nd, h.seen.ext e2 (by have := h.lt; omega), h.hiB, h.hiV, h.pN⟩
 rw [← tcells_set v mb f i hi z]
 exact h.box.set (2 + i) _
theorem same (h : Told0 w p mb N n ws f g v rows bls) {n' : Nat} {f' : Int → Int} {g' : Int → Int → Nat} (hn : n ≤ n') (hf : ∀ j, f j = f' j) (hg : ∀ s q, g s q = g' s q) : Told0 w p mb N n' ws f' g' v rows bls := by
 rw [funext hf] at h
 exact ⟨h.lt, h.box, h.grow, h.sub, h.nd, (h.seen.mono hn).congr hg, h.hiB, h.hiV, h.pN⟩
end Told0
abbrev Told (w : World) (p mb N : Nat) (ws : List DWrite) (v : Value) (rows : List (List Value)) (bls : List (List Nat)) : Prop := Told0 w p mb N ws.length ws (lastI ws) (fun s q => seenI ws s q) v rows bls
theorem told_new (w : World) : Told ((w.alloc (.map #[] 0)).alloc (.cells (tcells (.slice none 0 0) w.heap.size (lastI [])) 278)) (w.heap.size + 1) w.heap.size ((w.alloc (.map #[] 0)).alloc (.cells (tcells (.slice none 0 0) w.heap.size (lastI [])) 278)).heap.size [] (.slice none 0 0) [] [] := by
 have e : (w.alloc (.map #[] 0)).heap.size = w.heap.size + 1 := by simp
 have b : Box 0 (tcells (.slice none 0 0) w.heap.size (lastI [])) 278 ((w.alloc (.map #[] 0)).alloc (.cells (tcells (.slice none 0 0) w.heap.size (lastI [])) 278)) (w.alloc (.map #[] 0)).heap.size := newBox (Nat.zero_le _)
 rw [e] at b
 refine ⟨by omega, b, Grow.nil ⟨by simp, Or.inl ⟨rfl, rfl⟩⟩, by simp, by simp, ?_, by simp, by simp [Value.ownBlock], b.lt⟩
 exact (ticks_new w).ext (ext_of_below ((Below.refl _ _).alloc (Nat.le_refl _) _) (fun _ => False)) (fun h => h)
end Go.Proofs.YtoanimpijfijgaaGreat
