/-
  Texts of this proof in one: SpecWN, SpecMsgF, SpecNetF, SpecWF, SpecComm, SpecIntsB.
  Their conditions stand in their theorems.
-/
import Derived.Test.YtecagllmonckgaaGreatLi09
import Derived.Deep.RegionHeld3
import Derived.Test.YtecagllmonckgaaGreatLi00
import Derived.Test.YtecagllmonckgaaGreatChecked
import Derived.Test.YtecagllmonckgaaGreatLi05
import Derived.Test.YtecagllmonckgaaGreatLi01
import Derived.Deep.CutRange
import Derived.Test.YtecagllmonckgaaGreatLi08
import Derived.Deep.QuietTactic
import Derived.BigQuiet
import Derived.Test.YtecagllmonckgaaGreatLi07
import Derived.WalkSmall
set_option maxRecDepth 100000
set_option maxHeartbeats 4000000
namespace Go.Proofs.YtecagllmonckgaaGreat
open Go.RowKit
theorem gB (c : bc) {xs : List bn} {k : Nat} (hk : k < xs.length) : bz c k (xs.drop k) = if aC xs[k] ≠ 0 then aC xs[k] else if (xs[k].id != (k : Int) + 1) = true then 1 else if (decide (c.ab < xs[k].ab) || ((xs[k].up && decide (0 ≤ aS c.ids xs[k].id)) && (xs[k].ab != c.ab))) = true then 7 else bz c (k + 1) (xs.drop (k + 1)) := by
 rw [List.drop_eq_getElem_cons hk, bz]
 by_cases h1 : aC xs[k] ≠ 0
 ·
  rw [if_pos h1, if_pos h1]
 rw [if_neg h1, if_neg h1]
 by_cases h2 : xs[k].id ≠ (k : Int) + 1
 ·
  have b2 : (xs[k].id != (k : Int) + 1) = true := by simpa using h2
  rw [if_pos h2, b2, if_pos rfl]
 have b2 : (xs[k].id != (k : Int) + 1) = false := by simpa using h2
 rw [if_neg h2, b2, if_neg (show ¬ (false = true) by simp)]
 by_cases h3 : c.ab < xs[k].ab ∨ (xs[k].up = true ∧ 0 ≤ aS c.ids xs[k].id ∧ xs[k].ab ≠ c.ab)
 ·
  have b3 : (decide (c.ab < xs[k].ab) || ((xs[k].up && decide (0 ≤ aS c.ids xs[k].id)) && (xs[k].ab != c.ab))) = true := by
   rcases h3 with h3 | ⟨h4, h5, h6⟩
   ·
    simp [h3]
   simp [h4, h5, h6]
  rw [if_pos h3, b3, if_pos rfl]
 rw [if_neg h3, if_neg]
 intro q
 apply h3
 simp only [Bool.or_eq_true, Bool.and_eq_true, decide_eq_true_eq, bne_iff_ne] at q
 rcases q with q | ⟨⟨q1, q2⟩, q3⟩
 ·
  exact Or.inl q
 exact Or.inr ⟨q1, q2, q3⟩
theorem jx (a3 : Option Addr) (d3 : Nat) (a4 : Option Addr) (d4 : Nat) (a5 : Option Addr) (d5 : Nat) (a6 : Option Addr) (d6 : Nat) (x : aN) (xb : Nat) (w : World) (hX : ar 0 #[.int .i64 x.now, .int .i64 x.events, .int .i64 x.chain.ab, .slice a3 x.chain.ids.length d3, .slice a4 x.nodes.length d4, .slice a5 x.msgs.length d5, .slice a6 x.ae.length d6] 37 w xb) (h : ad.a8.Reads w [.int .i64 x.now, .int .i64 x.events, .int .i64 x.chain.ab, .slice a3 x.chain.ids.length d3, .slice a4 x.nodes.length d4, .slice a5 x.msgs.length d5, .slice a6 x.ae.length d6] x) :
  Calls Tryz.prog 148 #[.pointer (some ⟨xb, 0, none⟩)] w fun e w' => e = .returned (.int .i64 (aW x)) ∧ Below w.heap.size w w' := by
 obtain ⟨_, _, _, _, _, _, _, _, hq, RC, RN, -, -⟩ := aF h
 simp only [List.cons.injEq, Value.slice.injEq, and_true, true_and] at hq
 obtain ⟨⟨rfl, rfl⟩, ⟨rfl, rfl⟩, ⟨rfl, rfl⟩, rfl, rfl⟩ := hq
 obtain ⟨_, _, hq, RI⟩ := ba RC
 simp only [List.cons.injEq, Value.slice.injEq, and_true, true_and] at hq
 obtain ⟨rfl, rfl⟩ := hq
 have hbig := RI.cK
 have hbn := RN.cK
 have HI := yh RI
 have HN := yh RN
 have HX := yh hX
 have HQ : Hid (aW x = if bz x.chain 0 (x.nodes.drop 0) ≠ 0 then bz x.chain 0 (x.nodes.drop 0) else if (x.chain.ids.drop 0).all (bk x) = true then 0 else 4) := by
  show aW x = _
  unfold aW
  rfl
 have HV : Hid (∀ n, bz x.chain 0 (x.nodes.drop 0) = n → n ≠ 0 → aW x = n) := fun n h1 h2 => by rw [uh HQ, h1, if_pos h2]
 have HV0 : Hid (bz x.chain 0 (x.nodes.drop 0) = 0 → aW x = if (x.chain.ids.drop 0).all (bk x) = true then 0 else 4) := fun h1 => by rw [uh HQ, h1]; rfl
 clear RC RN RI h hX HQ
 generalize aW x = r at *
 generalize hF0 : bz x.chain 0 (x.nodes.drop 0) = f0 at *
 replace hF0 := hF0.symm
 go_enter Tryz.func148, Tryz.ntmps148
 go_wp2_with fail
 go_loopw [3] (fun i wr => ∃ k : Nat, k ≤ x.nodes.length ∧ i = .int .i64 k ∧ f0 = bz x.chain k (x.nodes.drop k) ∧ Below w.heap.size w wr) (fun i _ => x.nodes.length - (intOf i).toNat)
 case atStart => exact ⟨0, Nat.zero_le _, rfl, hF0, Below.refl _ _⟩
 case round =>
  obtain ⟨k, hk, rfl, hF, hB⟩ := hrel
  clear hF0
  have hX1 := (uh HX).au hB
  have v2 := ar.at hX1 2 _ rfl
  have v3 := ar.at hX1 4 _ rfl
  have w3 := ar.at hX1 3 _ rfl
  simp only [ga, gb, gc] at v2 v3 w3
  have xl := hX1.lt
  have HX1 := yh hX1
  clear hX1 w3
  by_cases hlt : k < x.nodes.length
  ·
   obtain ⟨b, off, rfl, hbl⟩ := ad.aD (uh HN) (by omega)
   obtain ⟨row, hcl, hr⟩ := ad.aR (uh HN) hlt
   replace hr := hr.af hB
   rw [gB x.chain hlt] at hF
   have hdl : decide ((k : Int) < (x.nodes.length : Int)) = true := by simp; omega
   have hrl := hr.len
   obtain ⟨a4n, d4n, rfl, RW⟩ := aQ hr
   have hRI : cr #[.int .i64 (x.nodes[k]).id, .bool (x.nodes[k]).up, .int .i64 (x.nodes[k]).ab, .int .i64 (x.nodes[k]).ai, .slice a4n (x.nodes[k]).writes.length d4n, .int .i64 (x.nodes[k]).sure, .int .i64 (x.nodes[k]).clean] wr b (off + k * 7) := cr.ofRow (A := ad.aP) (k := k) (fun m hm => (hB.cell (p := ⟨b, off + k * 7 + m, none⟩) hbl).trans (hcl m hm)) hrl (Nat.lt_of_lt_of_le hbl hB.size)
   have hI := (uh HI).af hB
   have HL := yh (jQ b (off + k * 7) a4n d4n _ wr hRI RW)
   have HRI := yh hRI
   have HB := yh hB
   have HF := yh hF
   have HI1 := yh hI
   clear hF hB hr hrl hcl hRI hI RW
   generalize hx : x.nodes[k] = n at *
   clear hx
   go_wp2_with fail
   refine (uh HL).mono ?_
   rintro e w5 ⟨rfl, hb⟩
   replace HX1 := yh ((uh HX1).au hb)
   replace HRI := yh ((uh HRI).au hb)
   replace HI1 := yh ((uh HI1).af hb)
   replace HB := bZ HB hb
   clear hb HL v2 v3
   by_cases e1 : aC n ≠ 0
   ·
    have hd : (aC n != 0) = true := by simpa using e1
    have HE := yh (uh HV _ ((uh HF).trans (if_pos e1)) e1)
    clear e1
    generalize aC n = c at *
    go_wp2_with fail
    go_ret
    exact ⟨by rw [uh HE]; rfl, uh HB⟩
   replace HF := yh ((uh HF).trans (if_neg e1))
   have hd : aC n = 0 := by simpa using e1
   clear e1
   rw [hd]
   clear hd
   have HB0 := HB
   replace HB := yh (uh HB).drew
   have z0' := (uh HRI).at 0 _ rfl
   have z0 := (uh HRI).drew.at 0 _ rfl
   have z1 := (uh HRI).drew.at 1 _ rfl
   have z2 := (uh HRI).drew.at 2 _ rfl
   have y2 := ar.at (uh HX1).drew 2 _ rfl
   simp only [List.getElem_toArray, List.getElem_cons_zero, List.getElem_cons_succ, Nat.add_zero] at z0' z0 z1 z2 y2
   have xl5 := (uh HX1).lt
   have rl5 := (uh HRI).lt
   have LA : Hid (Calls Tryz.prog 169 #[.pointer (some ⟨xb, 2, none⟩), .int .i64 n.id] w5.drew fun e w' => e = .returned (.int .i64 (aS x.chain.ids n.id)) ∧ w' = w5.drew) := jP xb 2 _ _ x.chain n.id w5.drew ⟨(uh HX1).drew.at 2 _ rfl, (uh HX1).drew.at 3 _ rfl⟩ ((uh HI1).drew 1)
   generalize hid : n.id = id at *
   cases e2 : (id != (k : Int) + 1)
   ·
    replace HF := yh ((uh HF).trans (if_neg (by rw [e2]; simp)))
    clear hid
    generalize hup : n.up = up at *
    generalize hep : n.ab = ep at *
    generalize hce : x.chain.ab = ce at *
    generalize aS x.chain.ids id = p at *
    clear hup hep hce
    cases e3 : decide (ce < ep)
    ·
     cases up
     ·
      replace HF := yh ((uh HF).trans (if_neg (by rw [e3]; simp)))
      go_wp2_with fail
      refine wZz (fun w' => w' = w5.drew) rfl (fun zq => ?_)
      generalize w5.drew = wD at zq z0 z1 z2 y2 HB LA ⊢
      refine tkJ 0 (v := ?vq1_0) ?hq1_0 zq ?rq1_0
      case hq1_0 =>
       intro wS hSw
       subst hSw
       exact fZ
      refine tkJ 1 (v := ?vq1_1) ?hq1_1 zq ?rq1_1
      case hq1_1 =>
       intro wS hSw
       subst hSw
       exact fZ
      refine tkJ 2 (v := ?vq1_2) ?hq1_2 zq ?rq1_2
      case hq1_2 =>
       intro wS hSw
       subst hSw
       exact fZ
      refine tkJ 3 (v := ?vq1_3) ?hq1_3 zq ?rq1_3
      case hq1_3 =>
       intro wS hSw
       subst hSw
       exact fZ
      refine tkJ 4 (v := ?vq1_4) ?hq1_4 zq ?rq1_4
      case hq1_4 =>
       intro wS hSw
       subst hSw
       exact fZ
      refine tkJ 5 (v := ?vq1_5) ?hq1_5 zq ?rq1_5
      case hq1_5 =>
       intro wS hSw
       subst hSw
       exact fZ
      refine tkJ 6 (v := ?vq1_6) ?hq1_6 zq ?rq1_6
      case hq1_6 =>
       intro wS hSw
       subst hSw
       exact fZ
      refine tkJ 7 (v := ?vq1_7) ?hq1_7 zq ?rq1_7
      case hq1_7 =>
       intro wS hSw
       subst hSw
       exact fZ
      refine tkJ 8 (v := ?vq1_8) ?hq1_8 zq ?rq1_8
      case hq1_8 =>
       intro wS hSw
       subst hSw
       exact fZ
      refine tkJ 9 (v := ?vq1_9) ?hq1_9 zq ?rq1_9
      case hq1_9 =>
       intro wS hSw
       subst hSw
       exact fZ
      refine tkJ 10 (v := ?vq1_10) ?hq1_10 zq ?rq1_10
      case hq1_10 =>
       intro wS hSw
       subst hSw
       exact fZ
      refine tkJ 11 (v := ?vq1_11) ?hq1_11 zq ?rq1_11
      case hq1_11 =>
       intro wS hSw
       subst hSw
       exact fZ
      refine tkJ 12 (v := ?vq1_12) ?hq1_12 zq ?rq1_12
      case hq1_12 =>
       intro wS hSw
       subst hSw
       exact fZ
      refine tkJ 13 (v := ?vq1_13) ?hq1_13 zq ?rq1_13
      case hq1_13 =>
       intro wS hSw
       subst hSw
       exact fZ
      refine tkJ 14 (v := ?vq1_14) ?hq1_14 zq ?rq1_14
      case hq1_14 =>
       intro wS hSw
       subst hSw
       exact fZ
      refine tkJ 15 (v := ?vq1_15) ?hq1_15 zq ?rq1_15
      case hq1_15 =>
       intro wS hSw
       subst hSw
       exact fZ
      refine skH 16 zq ?_
      refine skH 17 zq ?_
      refine skH 18 zq ?_
      refine skH 19 zq ?_
      refine skH 20 zq ?_
      refine skH 21 zq ?_
      refine skH 22 zq ?_
      refine skH 23 zq ?_
      refine skH 24 zq ?_
      refine tkJ 25 (v := ?vq1_25) ?hq1_25 zq ?rq1_25
      case hq1_25 =>
       intro wS hSw
       subst hSw
       exact fZ
      refine tkJ 26 (v := ?vq1_26) ?hq1_26 zq ?rq1_26
      case hq1_26 =>
       intro wS hSw
       subst hSw
       exact fZ
      refine skH 27 zq ?_
      refine skH 28 zq ?_
      refine skH 29 zq ?_
      refine skH 30 zq ?_
      refine skH 31 zq ?_
      refine skH 32 zq ?_
      refine skH 33 zq ?_
      refine skH 34 zq ?_
      refine skH 35 zq ?_
      refine skH 36 zq ?_
      refine tkJ 37 (v := ?vq1_37) ?hq1_37 zq ?rq1_37
      case hq1_37 =>
       intro wS hSw
       subst hSw
       exact fZ
      refine tkJ 38 (v := ?vq1_38) ?hq1_38 zq ?rq1_38
      case hq1_38 =>
       intro wS hSw
       subst hSw
       exact fZ
      refine dZ ?_
      clear zq
      go_wp2_with fail
      go_roundw
      case rel => exact ⟨k + 1, by omega, by go_num, uh HF, uh HB⟩
      case measure => simp [intOf]; omega
     cases e4 : decide (0 ≤ p)
     ·
      replace HF := yh ((uh HF).trans (if_neg (by rw [e3, e4]; simp)))
      go_wp2_with fail
      refine wZz (fun w' => w' = w5.drew) rfl (fun zq => ?_)
      generalize w5.drew = wD at zq z0 z1 z2 y2 HB LA ⊢
      refine tkJ 0 (v := ?vq2_0) ?hq2_0 zq ?rq2_0
      case hq2_0 =>
       intro wS hSw
       subst hSw
       exact fZ
      refine tkJ 1 (v := ?vq2_1) ?hq2_1 zq ?rq2_1
      case hq2_1 =>
       intro wS hSw
       subst hSw
       exact fZ
      refine tkJ 2 (v := ?vq2_2) ?hq2_2 zq ?rq2_2
      case hq2_2 =>
       intro wS hSw
       subst hSw
       exact fZ
      refine tkJ 3 (v := ?vq2_3) ?hq2_3 zq ?rq2_3
      case hq2_3 =>
       intro wS hSw
       subst hSw
       exact fZ
      refine tkJ 4 (v := ?vq2_4) ?hq2_4 zq ?rq2_4
      case hq2_4 =>
       intro wS hSw
       subst hSw
       exact fZ
      refine tkJ 5 (v := ?vq2_5) ?hq2_5 zq ?rq2_5
      case hq2_5 =>
       intro wS hSw
       subst hSw
       exact fZ
      refine tkJ 6 (v := ?vq2_6) ?hq2_6 zq ?rq2_6
      case hq2_6 =>
       intro wS hSw
       subst hSw
       exact fZ
      refine tkJ 7 (v := ?vq2_7) ?hq2_7 zq ?rq2_7
      case hq2_7 =>
       intro wS hSw
       subst hSw
       exact fZ
      refine tkJ 8 (v := ?vq2_8) ?hq2_8 zq ?rq2_8
      case hq2_8 =>
       intro wS hSw
       subst hSw
       exact fZ
      refine tkJ 9 (v := ?vq2_9) ?hq2_9 zq ?rq2_9
      case hq2_9 =>
       intro wS hSw
       subst hSw
       exact fZ
      refine tkJ 10 (v := ?vq2_10) ?hq2_10 zq ?rq2_10
      case hq2_10 =>
       intro wS hSw
       subst hSw
       exact fZ
      refine tkJ 11 (v := ?vq2_11) ?hq2_11 zq ?rq2_11
      case hq2_11 =>
       intro wS hSw
       subst hSw
       exact fZ
      refine tkJ 12 (v := ?vq2_12) ?hq2_12 zq ?rq2_12
      case hq2_12 =>
       intro wS hSw
       subst hSw
       exact fZ
      refine tkJ 13 (v := ?vq2_13) ?hq2_13 zq ?rq2_13
      case hq2_13 =>
       intro wS hSw
       subst hSw
       exact fZ
      refine tkJ 14 (v := ?vq2_14) ?hq2_14 zq ?rq2_14
      case hq2_14 =>
       intro wS hSw
       subst hSw
       exact fZ
      refine tkJ 15 (v := ?vq2_15) ?hq2_15 zq ?rq2_15
      case hq2_15 =>
       intro wS hSw
       subst hSw
       exact fZ
      refine tkJ 16 (v := ?vq2_16) ?hq2_16 zq ?rq2_16
      case hq2_16 =>
       intro wS hSw
       subst hSw
       exact fZ
      refine tkJ 17 (v := ?vq2_17) ?hq2_17 zq ?rq2_17
      case hq2_17 =>
       intro wS hSw
       subst hSw
       exact fZ
      refine tkJ 18 (v := ?vq2_18) ?hq2_18 zq ?rq2_18
      case hq2_18 =>
       intro wS hSw
       subst hSw
       exact fZ
      refine tkJ 19 (v := ?vq2_19) ?hq2_19 zq ?rq2_19
      case hq2_19 =>
       intro wS hSw
       subst hSw
       exact fZ
      refine tkJ 20 (v := ?vq2_20) ?hq2_20 zq ?rq2_20
      case hq2_20 =>
       intro wS hSw
       subst hSw
       exact fZ
      refine tkJ 21 (v := ?vq2_21) ?hq2_21 zq ?rq2_21
      case hq2_21 =>
       intro wS hSw
       subst hSw
       exact fZ
      refine tkJ 22 (v := ?vq2_22) ?hq2_22 zq ?rq2_22
      case hq2_22 =>
       intro wS hSw
       subst hSw
       exact fZ
      refine rdH 23 (fun K hK => ?_)
      go_simp
      go_at_call 169
      refine (uh LA).mono ?_
      rintro e u1 ⟨rfl, h1⟩
      subst u1
      try go_wp2_with fail
      refine hK.out _ _ rfl (fun zq => ?_)
      clear hK K
      try simp only [Act.put, pz, py, px]
      refine tkJ 24 (v := ?vq2_24) ?hq2_24 zq ?rq2_24
      case hq2_24 =>
       intro wS hSw
       subst hSw
       exact fZ
      refine tkJ 25 (v := ?vq2_25) ?hq2_25 zq ?rq2_25
      case hq2_25 =>
       intro wS hSw
       subst hSw
       exact fZ
      refine tkJ 26 (v := ?vq2_26) ?hq2_26 zq ?rq2_26
      case hq2_26 =>
       intro wS hSw
       subst hSw
       exact fZ
      refine skH 27 zq ?_
      refine skH 28 zq ?_
      refine skH 29 zq ?_
      refine skH 30 zq ?_
      refine skH 31 zq ?_
      refine skH 32 zq ?_
      refine skH 33 zq ?_
      refine skH 34 zq ?_
      refine skH 35 zq ?_
      refine skH 36 zq ?_
      refine tkJ 37 (v := ?vq2_37) ?hq2_37 zq ?rq2_37
      case hq2_37 =>
       intro wS hSw
       subst hSw
       exact fZ
      refine tkJ 38 (v := ?vq2_38) ?hq2_38 zq ?rq2_38
      case hq2_38 =>
       intro wS hSw
       subst hSw
       exact fZ
      refine dZ ?_
      clear zq
      go_wp2_with fail
      go_roundw
      case rel => exact ⟨k + 1, by omega, by go_num, uh HF, uh HB⟩
      case measure => simp [intOf]; omega
     cases e5 : (ep != ce)
     ·
      replace HF := yh ((uh HF).trans (if_neg (by rw [e3, e4, e5]; simp)))
      go_wp2_with fail
      refine wZz (fun w' => w' = w5.drew) rfl (fun zq => ?_)
      generalize w5.drew = wD at zq z0 z1 z2 y2 HB LA ⊢
      refine tkJ 0 (v := ?vq3_0) ?hq3_0 zq ?rq3_0
      case hq3_0 =>
       intro wS hSw
       subst hSw
       exact fZ
      refine tkJ 1 (v := ?vq3_1) ?hq3_1 zq ?rq3_1
      case hq3_1 =>
       intro wS hSw
       subst hSw
       exact fZ
      refine tkJ 2 (v := ?vq3_2) ?hq3_2 zq ?rq3_2
      case hq3_2 =>
       intro wS hSw
       subst hSw
       exact fZ
      refine tkJ 3 (v := ?vq3_3) ?hq3_3 zq ?rq3_3
      case hq3_3 =>
       intro wS hSw
       subst hSw
       exact fZ
      refine tkJ 4 (v := ?vq3_4) ?hq3_4 zq ?rq3_4
      case hq3_4 =>
       intro wS hSw
       subst hSw
       exact fZ
      refine tkJ 5 (v := ?vq3_5) ?hq3_5 zq ?rq3_5
      case hq3_5 =>
       intro wS hSw
       subst hSw
       exact fZ
      refine tkJ 6 (v := ?vq3_6) ?hq3_6 zq ?rq3_6
      case hq3_6 =>
       intro wS hSw
       subst hSw
       exact fZ
      refine tkJ 7 (v := ?vq3_7) ?hq3_7 zq ?rq3_7
      case hq3_7 =>
       intro wS hSw
       subst hSw
       exact fZ
      refine tkJ 8 (v := ?vq3_8) ?hq3_8 zq ?rq3_8
      case hq3_8 =>
       intro wS hSw
       subst hSw
       exact fZ
      refine tkJ 9 (v := ?vq3_9) ?hq3_9 zq ?rq3_9
      case hq3_9 =>
       intro wS hSw
       subst hSw
       exact fZ
      refine tkJ 10 (v := ?vq3_10) ?hq3_10 zq ?rq3_10
      case hq3_10 =>
       intro wS hSw
       subst hSw
       exact fZ
      refine tkJ 11 (v := ?vq3_11) ?hq3_11 zq ?rq3_11
      case hq3_11 =>
       intro wS hSw
       subst hSw
       exact fZ
      refine tkJ 12 (v := ?vq3_12) ?hq3_12 zq ?rq3_12
      case hq3_12 =>
       intro wS hSw
       subst hSw
       exact fZ
      refine tkJ 13 (v := ?vq3_13) ?hq3_13 zq ?rq3_13
      case hq3_13 =>
       intro wS hSw
       subst hSw
       exact fZ
      refine tkJ 14 (v := ?vq3_14) ?hq3_14 zq ?rq3_14
      case hq3_14 =>
       intro wS hSw
       subst hSw
       exact fZ
      refine tkJ 15 (v := ?vq3_15) ?hq3_15 zq ?rq3_15
      case hq3_15 =>
       intro wS hSw
       subst hSw
       exact fZ
      refine tkJ 16 (v := ?vq3_16) ?hq3_16 zq ?rq3_16
      case hq3_16 =>
       intro wS hSw
       subst hSw
       exact fZ
      refine tkJ 17 (v := ?vq3_17) ?hq3_17 zq ?rq3_17
      case hq3_17 =>
       intro wS hSw
       subst hSw
       exact fZ
      refine tkJ 18 (v := ?vq3_18) ?hq3_18 zq ?rq3_18
      case hq3_18 =>
       intro wS hSw
       subst hSw
       exact fZ
      refine tkJ 19 (v := ?vq3_19) ?hq3_19 zq ?rq3_19
      case hq3_19 =>
       intro wS hSw
       subst hSw
       exact fZ
      refine tkJ 20 (v := ?vq3_20) ?hq3_20 zq ?rq3_20
      case hq3_20 =>
       intro wS hSw
       subst hSw
       exact fZ
      refine tkJ 21 (v := ?vq3_21) ?hq3_21 zq ?rq3_21
      case hq3_21 =>
       intro wS hSw
       subst hSw
       exact fZ
      refine tkJ 22 (v := ?vq3_22) ?hq3_22 zq ?rq3_22
      case hq3_22 =>
       intro wS hSw
       subst hSw
       exact fZ
      refine rdH 23 (fun K hK => ?_)
      go_simp
      go_at_call 169
      refine (uh LA).mono ?_
      rintro e u1 ⟨rfl, h1⟩
      subst u1
      try go_wp2_with fail
      refine hK.out _ _ rfl (fun zq => ?_)
      clear hK K
      try simp only [Act.put, pz, py, px]
      refine tkJ 24 (v := ?vq3_24) ?hq3_24 zq ?rq3_24
      case hq3_24 =>
       intro wS hSw
       subst hSw
       exact fZ
      refine tkJ 25 (v := ?vq3_25) ?hq3_25 zq ?rq3_25
      case hq3_25 =>
       intro wS hSw
       subst hSw
       exact fZ
      refine tkJ 26 (v := ?vq3_26) ?hq3_26 zq ?rq3_26
      case hq3_26 =>
       intro wS hSw
       subst hSw
       exact fZ
      refine tkJ 27 (v := ?vq3_27) ?hq3_27 zq ?rq3_27
      case hq3_27 =>
       intro wS hSw
       subst hSw
       exact fZ
      refine tkJ 28 (v := ?vq3_28) ?hq3_28 zq ?rq3_28
      case hq3_28 =>
       intro wS hSw
       subst hSw
       exact fZ
      refine tkJ 29 (v := ?vq3_29) ?hq3_29 zq ?rq3_29
      case hq3_29 =>
       intro wS hSw
       subst hSw
       exact fZ
      refine tkJ 30 (v := ?vq3_30) ?hq3_30 zq ?rq3_30
      case hq3_30 =>
       intro wS hSw
       subst hSw
       exact fZ
      refine tkJ 31 (v := ?vq3_31) ?hq3_31 zq ?rq3_31
      case hq3_31 =>
       intro wS hSw
       subst hSw
       exact fZ
      refine tkJ 32 (v := ?vq3_32) ?hq3_32 zq ?rq3_32
      case hq3_32 =>
       intro wS hSw
       subst hSw
       exact fZ
      refine tkJ 33 (v := ?vq3_33) ?hq3_33 zq ?rq3_33
      case hq3_33 =>
       intro wS hSw
       subst hSw
       exact fZ
      refine tkJ 34 (v := ?vq3_34) ?hq3_34 zq ?rq3_34
      case hq3_34 =>
       intro wS hSw
       subst hSw
       exact fZ
      refine tkJ 35 (v := ?vq3_35) ?hq3_35 zq ?rq3_35
      case hq3_35 =>
       intro wS hSw
       subst hSw
       exact fZ
      refine tkJ 36 (v := ?vq3_36) ?hq3_36 zq ?rq3_36
      case hq3_36 =>
       intro wS hSw
       subst hSw
       exact fZ
      refine tkJ 37 (v := ?vq3_37) ?hq3_37 zq ?rq3_37
      case hq3_37 =>
       intro wS hSw
       subst hSw
       exact fZ
      refine tkJ 38 (v := ?vq3_38) ?hq3_38 zq ?rq3_38
      case hq3_38 =>
       intro wS hSw
       subst hSw
       exact fZ
      refine dZ ?_
      clear zq
      go_wp2_with fail
      go_roundw
      case rel => exact ⟨k + 1, by omega, by go_num, uh HF, uh HB⟩
      case measure => simp [intOf]; omega
     have HE := yh (uh HV _ ((uh HF).trans (if_pos (by rw [e3, e4, e5]; simp))) (by decide))
     go_wp2_with fail
     refine wZz (fun w' => w' = w5.drew) rfl (fun zq => ?_)
     generalize w5.drew = wD at zq z0 z1 z2 y2 HB LA ⊢
     refine tkJ 0 (v := ?vq4_0) ?hq4_0 zq ?rq4_0
     case hq4_0 =>
      intro wS hSw
      subst hSw
      exact fZ
     refine tkJ 1 (v := ?vq4_1) ?hq4_1 zq ?rq4_1
     case hq4_1 =>
      intro wS hSw
      subst hSw
      exact fZ
     refine tkJ 2 (v := ?vq4_2) ?hq4_2 zq ?rq4_2
     case hq4_2 =>
      intro wS hSw
      subst hSw
      exact fZ
     refine tkJ 3 (v := ?vq4_3) ?hq4_3 zq ?rq4_3
     case hq4_3 =>
      intro wS hSw
      subst hSw
      exact fZ
     refine tkJ 4 (v := ?vq4_4) ?hq4_4 zq ?rq4_4
     case hq4_4 =>
      intro wS hSw
      subst hSw
      exact fZ
     refine tkJ 5 (v := ?vq4_5) ?hq4_5 zq ?rq4_5
     case hq4_5 =>
      intro wS hSw
      subst hSw
      exact fZ
     refine tkJ 6 (v := ?vq4_6) ?hq4_6 zq ?rq4_6
     case hq4_6 =>
      intro wS hSw
      subst hSw
      exact fZ
     refine tkJ 7 (v := ?vq4_7) ?hq4_7 zq ?rq4_7
     case hq4_7 =>
      intro wS hSw
      subst hSw
      exact fZ
     refine tkJ 8 (v := ?vq4_8) ?hq4_8 zq ?rq4_8
     case hq4_8 =>
      intro wS hSw
      subst hSw
      exact fZ
     refine tkJ 9 (v := ?vq4_9) ?hq4_9 zq ?rq4_9
     case hq4_9 =>
      intro wS hSw
      subst hSw
      exact fZ
     refine tkJ 10 (v := ?vq4_10) ?hq4_10 zq ?rq4_10
     case hq4_10 =>
      intro wS hSw
      subst hSw
      exact fZ
     refine tkJ 11 (v := ?vq4_11) ?hq4_11 zq ?rq4_11
     case hq4_11 =>
      intro wS hSw
      subst hSw
      exact fZ
     refine tkJ 12 (v := ?vq4_12) ?hq4_12 zq ?rq4_12
     case hq4_12 =>
      intro wS hSw
      subst hSw
      exact fZ
     refine tkJ 13 (v := ?vq4_13) ?hq4_13 zq ?rq4_13
     case hq4_13 =>
      intro wS hSw
      subst hSw
      exact fZ
     refine tkJ 14 (v := ?vq4_14) ?hq4_14 zq ?rq4_14
     case hq4_14 =>
      intro wS hSw
      subst hSw
      exact fZ
     refine tkJ 15 (v := ?vq4_15) ?hq4_15 zq ?rq4_15
     case hq4_15 =>
      intro wS hSw
      subst hSw
      exact fZ
     refine tkJ 16 (v := ?vq4_16) ?hq4_16 zq ?rq4_16
     case hq4_16 =>
      intro wS hSw
      subst hSw
      exact fZ
     refine tkJ 17 (v := ?vq4_17) ?hq4_17 zq ?rq4_17
     case hq4_17 =>
      intro wS hSw
      subst hSw
      exact fZ
     refine tkJ 18 (v := ?vq4_18) ?hq4_18 zq ?rq4_18
     case hq4_18 =>
      intro wS hSw
      subst hSw
      exact fZ
     refine tkJ 19 (v := ?vq4_19) ?hq4_19 zq ?rq4_19
     case hq4_19 =>
      intro wS hSw
      subst hSw
      exact fZ
     refine tkJ 20 (v := ?vq4_20) ?hq4_20 zq ?rq4_20
     case hq4_20 =>
      intro wS hSw
      subst hSw
      exact fZ
     refine tkJ 21 (v := ?vq4_21) ?hq4_21 zq ?rq4_21
     case hq4_21 =>
      intro wS hSw
      subst hSw
      exact fZ
     refine tkJ 22 (v := ?vq4_22) ?hq4_22 zq ?rq4_22
     case hq4_22 =>
      intro wS hSw
      subst hSw
      exact fZ
     refine rdH 23 (fun K hK => ?_)
     go_simp
     go_at_call 169
     refine (uh LA).mono ?_
     rintro e u1 ⟨rfl, h1⟩
     subst u1
     try go_wp2_with fail
     refine hK.out _ _ rfl (fun zq => ?_)
     clear hK K
     try simp only [Act.put, pz, py, px]
     refine tkJ 24 (v := ?vq4_24) ?hq4_24 zq ?rq4_24
     case hq4_24 =>
      intro wS hSw
      subst hSw
      exact fZ
     refine tkJ 25 (v := ?vq4_25) ?hq4_25 zq ?rq4_25
     case hq4_25 =>
      intro wS hSw
      subst hSw
      exact fZ
     refine tkJ 26 (v := ?vq4_26) ?hq4_26 zq ?rq4_26
     case hq4_26 =>
      intro wS hSw
      subst hSw
      exact fZ
     refine tkJ 27 (v := ?vq4_27) ?hq4_27 zq ?rq4_27
     case hq4_27 =>
      intro wS hSw
      subst hSw
      exact fZ
     refine tkJ 28 (v := ?vq4_28) ?hq4_28 zq ?rq4_28
     case hq4_28 =>
      intro wS hSw
      subst hSw
      exact fZ
     refine tkJ 29 (v := ?vq4_29) ?hq4_29 zq ?rq4_29
     case hq4_29 =>
      intro wS hSw
      subst hSw
      exact fZ
     refine tkJ 30 (v := ?vq4_30) ?hq4_30 zq ?rq4_30
     case hq4_30 =>
      intro wS hSw
      subst hSw
      exact fZ
     refine tkJ 31 (v := ?vq4_31) ?hq4_31 zq ?rq4_31
     case hq4_31 =>
      intro wS hSw
      subst hSw
      exact fZ
     refine tkJ 32 (v := ?vq4_32) ?hq4_32 zq ?rq4_32
     case hq4_32 =>
      intro wS hSw
      subst hSw
      exact fZ
     refine tkJ 33 (v := ?vq4_33) ?hq4_33 zq ?rq4_33
     case hq4_33 =>
      intro wS hSw
      subst hSw
      exact fZ
     refine tkJ 34 (v := ?vq4_34) ?hq4_34 zq ?rq4_34
     case hq4_34 =>
      intro wS hSw
      subst hSw
      exact fZ
     refine tkJ 35 (v := ?vq4_35) ?hq4_35 zq ?rq4_35
     case hq4_35 =>
      intro wS hSw
      subst hSw
      exact fZ
     refine tkJ 36 (v := ?vq4_36) ?hq4_36 zq ?rq4_36
     case hq4_36 =>
      intro wS hSw
      subst hSw
      exact fZ
     refine tkJ 37 (v := ?vq4_37) ?hq4_37 zq ?rq4_37
     case hq4_37 =>
      intro wS hSw
      subst hSw
      exact fZ
     refine tkJ 38 (v := ?vq4_38) ?hq4_38 zq ?rq4_38
     case hq4_38 =>
      intro wS hSw
      subst hSw
      exact fZ
     refine dZ ?_
     clear zq
     go_wp2_with fail
     go_ret
     exact ⟨by rw [uh HE]; rfl, uh HB⟩
    have HE := yh (uh HV _ ((uh HF).trans (if_pos (by rw [e3]; simp))) (by decide))
    go_wp2_with fail
    refine wZz (fun w' => w' = w5.drew) rfl (fun zq => ?_)
    generalize w5.drew = wD at zq z0 z1 z2 y2 HB LA ⊢
    refine tkJ 0 (v := ?vq5_0) ?hq5_0 zq ?rq5_0
    case hq5_0 =>
     intro wS hSw
     subst hSw
     exact fZ
    refine tkJ 1 (v := ?vq5_1) ?hq5_1 zq ?rq5_1
    case hq5_1 =>
     intro wS hSw
     subst hSw
     exact fZ
    refine tkJ 2 (v := ?vq5_2) ?hq5_2 zq ?rq5_2
    case hq5_2 =>
     intro wS hSw
     subst hSw
     exact fZ
    refine tkJ 3 (v := ?vq5_3) ?hq5_3 zq ?rq5_3
    case hq5_3 =>
     intro wS hSw
     subst hSw
     exact fZ
    refine tkJ 4 (v := ?vq5_4) ?hq5_4 zq ?rq5_4
    case hq5_4 =>
     intro wS hSw
     subst hSw
     exact fZ
    refine tkJ 5 (v := ?vq5_5) ?hq5_5 zq ?rq5_5
    case hq5_5 =>
     intro wS hSw
     subst hSw
     exact fZ
    refine tkJ 6 (v := ?vq5_6) ?hq5_6 zq ?rq5_6
    case hq5_6 =>
     intro wS hSw
     subst hSw
     exact fZ
    refine tkJ 7 (v := ?vq5_7) ?hq5_7 zq ?rq5_7
    case hq5_7 =>
     intro wS hSw
     subst hSw
     exact fZ
    refine tkJ 8 (v := ?vq5_8) ?hq5_8 zq ?rq5_8
    case hq5_8 =>
     intro wS hSw
     subst hSw
     exact fZ
    refine tkJ 9 (v := ?vq5_9) ?hq5_9 zq ?rq5_9
    case hq5_9 =>
     intro wS hSw
     subst hSw
     exact fZ
    refine tkJ 10 (v := ?vq5_10) ?hq5_10 zq ?rq5_10
    case hq5_10 =>
     intro wS hSw
     subst hSw
     exact fZ
    refine skH 11 zq ?_
    refine skH 12 zq ?_
    refine skH 13 zq ?_
    refine skH 14 zq ?_
    refine skH 15 zq ?_
    refine skH 16 zq ?_
    refine skH 17 zq ?_
    refine skH 18 zq ?_
    refine skH 19 zq ?_
    refine skH 20 zq ?_
    refine skH 21 zq ?_
    refine skH 22 zq ?_
    refine skH 23 zq ?_
    refine skH 24 zq ?_
    refine skH 25 zq ?_
    refine skH 26 zq ?_
    refine skH 27 zq ?_
    refine skH 28 zq ?_
    refine skH 29 zq ?_
    refine skH 30 zq ?_
    refine skH 31 zq ?_
    refine skH 32 zq ?_
    refine skH 33 zq ?_
    refine skH 34 zq ?_
    refine skH 35 zq ?_
    refine skH 36 zq ?_
    refine skH 37 zq ?_
    refine tkJ 38 (v := ?vq5_38) ?hq5_38 zq ?rq5_38
    case hq5_38 =>
     intro wS hSw
     subst hSw
     exact fZ
    refine dZ ?_
    clear zq
    go_wp2_with fail
    go_ret
    exact ⟨by rw [uh HE]; rfl, uh HB⟩
   have HE := yh (uh HV _ ((uh HF).trans (if_pos e2)) (by decide))
   go_wp2_with fail
   go_ret
   exact ⟨by rw [uh HE]; rfl, uh HB0⟩
  obtain rfl : k = x.nodes.length := by omega
  rw [List.drop_length] at hF
  have hdl : decide ((x.nodes.length : Int) < (x.nodes.length : Int)) = false := by simp
  have HZ := yh (uh HV0 hF)
  have HB1 := yh hB
  clear hF hB HV HV0
  go_wp2_with fail
  clear hdl v2 v3
  go_loopw [6] (fun i wq => ∃ k : Nat, k ≤ x.chain.ids.length ∧ i = .int .i64 k ∧ r = (if (x.chain.ids.drop k).all (bk x) = true then 0 else 4) ∧ Below wr.heap.size wr wq) (fun i _ => x.chain.ids.length - (intOf i).toNat)
  case atStart => exact ⟨0, Nat.zero_le _, rfl, uh HZ, Below.refl _ _⟩
  case round =>
   obtain ⟨k, hk, rfl, hF, hB⟩ := hrel
   clear HZ
   have hX2 := (uh HX1).au hB
   have y3 := ar.at hX2 3 _ rfl
   simp only [ga, gb, gc] at y3
   have xl2 := hX2.lt
   have HB := yh ((uh HB1).trans (hB.mono (uh HB1).size))
   by_cases hlt : k < x.chain.ids.length
   ·
    obtain ⟨b, off, rfl, hbl⟩ := ad.aD (uh HI) (by omega)
    have c1 := ((uh HB).cell (p := ⟨b, off + k, none⟩) hbl).trans (bF (uh HI) hlt)
    have hdl : decide ((k : Int) < (x.chain.ids.length : Int)) = true := by simp; omega
    rw [List.drop_eq_getElem_cons hlt, List.all_cons] at hF
    have HL := yh (jX _ _ _ _ _ _ _ _ x x.chain.ids[k] xb wr hX2)
    have HF := yh hF
    have HBQ := yh hB
    clear hF hX2 hB
    generalize x.chain.ids[k] = z at *
    go_wp2_with fail
    refine (uh HL).mono ?_
    rintro e w5 ⟨rfl, h5⟩
    subst w5
    clear HL
    generalize bk x z = q at *
    cases q
    ·
     replace HF := yh ((uh HF).trans (if_neg (by simp)))
     go_wp2_with fail
     go_ret
     exact ⟨by rw [uh HF]; rfl, uh HB⟩
    rw [Bool.true_and] at HF
    go_wp2_with fail
    go_roundw
    case rel => exact ⟨k + 1, by omega, by go_num, uh HF, uh HBQ⟩
    case measure => simp [intOf]; omega
   obtain rfl : k = x.chain.ids.length := by omega
   rw [List.drop_length, List.all_nil, if_pos rfl] at hF
   have hdl : decide ((x.chain.ids.length : Int) < (x.chain.ids.length : Int)) = false := by simp
   have HF := yh hF
   clear hF hB hX2
   go_wp2_with fail
   go_ret
   exact ⟨by rw [uh HF]; rfl, uh HB⟩
def lF (w : World) (b o : Nat) (x : bq) (v : Value) : Prop :=
 w.cell? ⟨b, o, none⟩ = some (.int .i64 x.kind) ∧ w.cell? ⟨b, o + 1, none⟩ = some (.int .i64 x.ab) ∧ w.cell? ⟨b, o + 2, none⟩ = some (.int .i64 x.src) ∧ w.cell? ⟨b, o + 3, none⟩ = some (.int .i64 x.dst) ∧ w.cell? ⟨b, o + 4, none⟩ = some (.int .i64 x.index) ∧ w.cell? ⟨b, o + 5, none⟩ = some (.int .i64 x.write.kind) ∧ w.cell? ⟨b, o + 5 + 1, none⟩ = some (.int .i64 x.write.id) ∧ w.cell? ⟨b, o + 5 + 2, none⟩ = some (v) ∧ w.cell? ⟨b, o + 5 + 3, none⟩ = some (.int .i64 x.write.aa) ∧ w.cell? ⟨b, o + 5 + 4, none⟩ = some (.int .i64 x.write.seq)
theorem me {y : ak} (h : (y.kind == 0) = false) : decide (iG y) = false := by
 rw [decide_eq_false_iff_not]; intro q; rw [q.1] at h; simp at h
theorem l8 {y : ak} (h : (y.id == 0) = false) : decide (iG y) = false := by
 rw [decide_eq_false_iff_not]; intro q; rw [q.2.1] at h; simp at h
theorem lV {y : ak} (h : (y.aa == 0) = false) : decide (iG y) = false := by
 rw [decide_eq_false_iff_not]; intro q; rw [q.2.2.1] at h; simp at h
theorem lH {y : ak} (h : (y.seq == 0) = false) : decide (iG y) = false := by
 rw [decide_eq_false_iff_not]; intro q; rw [q.2.2.2.1] at h; simp at h
theorem lP {y : ak} (h : ((y.vec.length : Int) == 0) = false) : decide (iG y) = false := by
 rw [decide_eq_false_iff_not]; intro q; rw [q.2.2.2.2] at h; simp at h
theorem mm {y : ak} (h0 : (y.kind == 0) = true) (h1 : (y.id == 0) = true) (h2 : (y.aa == 0) = true) (h3 : (y.seq == 0) = true) (h4 : ((y.vec.length : Int) == 0) = true) : decide (iG y) = true := by
 rw [decide_eq_true_iff]
 simp only [beq_iff_eq] at h0 h1 h2 h3 h4
 exact ⟨h0, h1, h2, h3, by omega⟩
theorem kZ {x : bq} (h : (decide (1 ≤ x.kind) && decide (x.kind ≤ 2)) = false) : aw x = 1 := by
 rw [aw, if_pos (Or.inl (by simpa using h))]
theorem lb {x : bq} (h : (x.src == x.dst) = true) : aw x = 1 := by
 rw [aw, if_pos (Or.inr (Or.inl (beq_iff_eq.1 h)))]
theorem lM {x : bq} (h : (x.kind == 2) = true) (h2 : decide (iG x.write) = false) : aw x = 1 := by
 rw [aw, if_pos (Or.inr (Or.inr ⟨beq_iff_eq.1 h, decide_eq_false_iff_not.1 h2⟩))]
def bT (x : bq) : Int := if ¬ (1 ≤ x.ab ∧ x.ab ≤ 999) ∨ ¬ (1 ≤ x.src ∧ x.src ≤ 5) ∨ ¬ (1 ≤ x.dst ∧ x.dst ≤ 5) ∨ ¬ (0 ≤ x.index ∧ x.index ≤ 40) ∨ (x.kind ≠ 2 ∧ x.index = 0) then 3
 else if x.kind = 2 then 0 else wF x.write
theorem j9 {x : bq} (h : (decide (1 ≤ x.kind) && decide (x.kind ≤ 2)) = true) (h1 : (x.src == x.dst) = false) (h2 : (x.kind == 2) = false) : aw x = bT x := by
 rw [aw, if_neg, bT]
 simp at h h1 h2
 rintro (q | q | q)
 ·
  exact q h
 ·
  exact h1 q
 exact h2 q.1
theorem jZ {x : bq} (h : (decide (1 ≤ x.kind) && decide (x.kind ≤ 2)) = true) (h1 : (x.src == x.dst) = false) (h2 : decide (iG x.write) = true) : aw x = bT x := by
 rw [aw, if_neg, bT]
 simp at h h1 h2
 rintro (q | q | q)
 ·
  exact q h
 ·
  exact h1 q
 exact q.2 h2
theorem iq {x : bq} (h : (decide (1 ≤ x.ab) && decide (x.ab ≤ 999)) = false) : bT x = 3 := by
 rw [bT, if_pos (Or.inl (by simpa using h))]
theorem ks {x : bq} (h : (decide (1 ≤ x.src) && decide (x.src ≤ 5)) = false) : bT x = 3 := by
 rw [bT, if_pos (Or.inr (Or.inl (by simpa using h)))]
theorem kl {x : bq} (h : (decide (1 ≤ x.dst) && decide (x.dst ≤ 5)) = false) : bT x = 3 := by
 rw [bT, if_pos (Or.inr (Or.inr (Or.inl (by simpa using h))))]
theorem gH {x : bq} (h : (decide (0 ≤ x.index) && decide (x.index ≤ 40)) = false) : bT x = 3 := by
 rw [bT, if_pos (Or.inr (Or.inr (Or.inr (Or.inl (by simpa using h)))))]
theorem kW {x : bq} (h : (x.kind == 2) = false) (h2 : (x.index == 0) = true) : bT x = 3 := by
 rw [bT, if_pos (Or.inr (Or.inr (Or.inr (Or.inr ⟨by simpa using h, by simpa using h2⟩))))]
theorem lE {x : bq} (h0 : (decide (1 ≤ x.ab) && decide (x.ab ≤ 999)) = true) (h1 : (decide (1 ≤ x.src) && decide (x.src ≤ 5)) = true) (h2 : (decide (1 ≤ x.dst) && decide (x.dst ≤ 5)) = true) (h3 : (decide (0 ≤ x.index) && decide (x.index ≤ 40)) = true) (h4 : (x.kind == 2) = true ∨ (x.index == 0) = false) : bT x = if x.kind = 2 then 0 else wF x.write := by
 rw [bT, if_neg]
 simp at h0 h1 h2 h3 h4
 rintro (q | q | q | q | q)
 ·
  exact q h0
 ·
  exact q h1
 ·
  exact q h2
 ·
  exact q h3
 rcases h4 with h4 | h4
 ·
  exact q.1 h4
 exact h4 q.2
theorem jL {w : World} {y : ak} {a : Option Addr} {d : Nat} (h : ad.ag.Reads w [.int .i64 y.kind, .int .i64 y.id, .slice a y.vec.length d, .int .i64 y.aa, .int .i64 y.seq] y) : (ad.sl ad.int).Reads w [.slice a y.vec.length d] y.vec := by
 obtain ⟨a2, d2, e, R⟩ := aI h
 simp only [List.cons.injEq, Value.slice.injEq, and_true, true_and] at e
 obtain ⟨rfl, rfl⟩ := e
 exact R
theorem lj (b o : Nat) (a : Option Addr) (d : Nat) (x : bq) (w : World) (hM : lF w b o x (.slice a x.write.vec.length d)) (R : (ad.sl ad.int).Reads w [.slice a x.write.vec.length d] x.write.vec) :
  Calls Tryz.prog 210 #[.pointer (some ⟨b, o, none⟩)] w fun e w' => e = .returned (.int .i64 (aw x)) ∧ Below w.heap.size w w' := by
 have hbig := R.cK
 have H := yh R
 have HM := yh hM
 obtain ⟨c0, c1, c2, c3, c4, c5, c6, c7, c8, c9⟩ := hM
 have hb := World.block_lt_of_cell? _ _ c0
 clear R
 go_enter Tryz.func210, Tryz.ntmps210
 go_upto_region 2 with fail
 go_cut [4] from 10 to 48 (fun s4 wx => s4 = .bool (decide (iG x.write)) ∧ wx = w)
 case first =>
  cases e0 : (x.write.kind == 0)
  ·
   have HF := yh (me e0)
   go_wp2_with fail
   go_meet
   exact ⟨by rw [uh HF], rfl⟩
  cases e1 : (x.write.id == 0)
  ·
   have HF := yh (l8 e1)
   go_wp2_with fail
   go_meet
   exact ⟨by rw [uh HF], rfl⟩
  cases e2 : (x.write.aa == 0)
  ·
   have HF := yh (lV e2)
   go_wp2_with fail
   go_meet
   exact ⟨by rw [uh HF], rfl⟩
  cases e3 : (x.write.seq == 0)
  ·
   have HF := yh (lH e3)
   go_wp2_with fail
   go_meet
   exact ⟨by rw [uh HF], rfl⟩
  cases e4 : ((x.write.vec.length : Int) == 0)
  ·
   have HF := yh (lP e4)
   go_wp2_with fail
   go_meet
   exact ⟨by rw [uh HF], rfl⟩
  have HF := yh (mm e0 e1 e2 e3 e4)
  go_wp2_with fail
  go_meet
  exact ⟨by rw [uh HF], rfl⟩
 case rest =>
  obtain ⟨rfl, hwc⟩ := hcut
  subst hwc
  cases d1 : (decide (1 ≤ x.kind) && decide (x.kind ≤ 2))
  ·
   have HF := yh (kZ d1)
   go_upto_region 3 with fail
   refine wZz (fun w' => Below wc.heap.size wc w') (Below.refl _ _).drew (fun zq => ?_)
   generalize wc.drew = wD at zq ⊢
   refine tkH 0 zq ?_
   refine tkH 1 zq ?_
   refine tkH 2 zq ?_
   refine tkJ 3 (v := ?va3_4) ?ha3_4 zq ?ra3_4
   case ha3_4 =>
    intro wS hSw
    have q0 := cZ hSw hb c0
    clear hSw
    exact fZ
   refine rdH 4 (fun K hK => ?_)
   go_simp
   go_at_call 102
   refine (cJ x.kind 1 2 _).mono ?_
   rintro e w1 ⟨rfl, h1⟩
   subst w1
   rw [d1]
   try go_wp2_with fail
   refine hK.out _ _ zq (fun zq => ?_)
   clear hK K
   try simp only [Act.put, pz, py, px]
   refine tkH 5 zq ?_
   refine tkH 6 zq ?_
   refine skH 7 zq ?_
   refine skH 8 zq ?_
   refine skH 9 zq ?_
   refine skH 10 zq ?_
   refine skH 11 zq ?_
   refine skH 12 zq ?_
   refine skH 13 zq ?_
   refine skH 14 zq ?_
   refine skH 15 zq ?_
   refine tkH 16 zq ?_
   refine tkH 17 zq ?_
   refine skH 18 zq ?_
   refine skH 19 zq ?_
   refine skH 20 zq ?_
   refine skH 21 zq ?_
   refine skH 22 zq ?_
   refine tkH 23 zq ?_
   refine dZ ?_
   have HB9 := yh zq
   clear zq
   go_wp2_with fail
   go_ret
   exact ⟨by rw [uh HF]; rfl, uh HB9⟩
  cases e1 : (x.src == x.dst)
  ·
   cases e2 : (x.kind == 2)
   ·
    have HRS := yh (j9 d1 e1 e2)
    go_upto_region 3 with fail
    refine wZz (fun w' => Below wc.heap.size wc w') (Below.refl _ _).drew (fun zq => ?_)
    generalize wc.drew = wD at zq ⊢
    refine tkH 0 zq ?_
    refine tkH 1 zq ?_
    refine tkH 2 zq ?_
    refine tkJ 3 (v := ?vc3_4) ?hc3_4 zq ?rc3_4
    case hc3_4 =>
     intro wS hSw
     have q0 := cZ hSw hb c0
     clear hSw
     exact fZ
    refine rdH 4 (fun K hK => ?_)
    go_simp
    go_at_call 102
    refine (cJ x.kind 1 2 _).mono ?_
    rintro e w1 ⟨rfl, h1⟩
    subst w1
    rw [d1]
    try go_wp2_with fail
    refine hK.out _ _ zq (fun zq => ?_)
    clear hK K
    try simp only [Act.put, pz, py, px]
    refine tkH 5 zq ?_
    refine tkH 6 zq ?_
    refine tkH 7 zq ?_
    refine tkH 8 zq ?_
    refine tkH 9 zq ?_
    refine tkJ 10 (v := ?vc10_10) ?hc10_10 zq ?rc10_10
    case hc10_10 =>
     intro wS hSw
     have q2 := cZ hSw hb c2
     clear hSw
     exact fZ
    refine tkH 11 zq ?_
    refine tkH 12 zq ?_
    refine tkH 13 zq ?_
    refine tkJ 14 (v := ?vc14_14) ?hc14_14 zq ?rc14_14
    case hc14_14 =>
     intro wS hSw
     have q3 := cZ hSw hb c3
     clear hSw
     exact fZ
    refine tkH 15 zq ?_
    refine tkH 16 zq ?_
    refine tkH 17 zq ?_
    refine tkH 18 zq ?_
    refine tkH 19 zq ?_
    refine skH 20 zq ?_
    refine skH 21 zq ?_
    refine tkH 22 zq ?_
    refine tkH 23 zq ?_
    refine dZ ?_
    have HB9 := zq
    clear zq
    have c0 : wD.cell? ⟨b, o, none⟩ = some (.int .i64 x.kind) := (HB9.cell (p := ⟨b, o, none⟩) hb).trans c0
    have c1 : wD.cell? ⟨b, o + 1, none⟩ = some (.int .i64 x.ab) := (HB9.cell (p := ⟨b, o + 1, none⟩) hb).trans c1
    have c2 : wD.cell? ⟨b, o + 2, none⟩ = some (.int .i64 x.src) := (HB9.cell (p := ⟨b, o + 2, none⟩) hb).trans c2
    have c3 : wD.cell? ⟨b, o + 3, none⟩ = some (.int .i64 x.dst) := (HB9.cell (p := ⟨b, o + 3, none⟩) hb).trans c3
    have c4 : wD.cell? ⟨b, o + 4, none⟩ = some (.int .i64 x.index) := (HB9.cell (p := ⟨b, o + 4, none⟩) hb).trans c4
    have c5 : wD.cell? ⟨b, o + 5, none⟩ = some (.int .i64 x.write.kind) := (HB9.cell (p := ⟨b, o + 5, none⟩) hb).trans c5
    have c6 : wD.cell? ⟨b, o + 5 + 1, none⟩ = some (.int .i64 x.write.id) := (HB9.cell (p := ⟨b, o + 5 + 1, none⟩) hb).trans c6
    have c7 : wD.cell? ⟨b, o + 5 + 2, none⟩ = some (.slice a x.write.vec.length d) := (HB9.cell (p := ⟨b, o + 5 + 2, none⟩) hb).trans c7
    have c8 : wD.cell? ⟨b, o + 5 + 3, none⟩ = some (.int .i64 x.write.aa) := (HB9.cell (p := ⟨b, o + 5 + 3, none⟩) hb).trans c8
    have c9 : wD.cell? ⟨b, o + 5 + 4, none⟩ = some (.int .i64 x.write.seq) := (HB9.cell (p := ⟨b, o + 5 + 4, none⟩) hb).trans c9
    have HWD := yh ((uh H).af HB9)
    replace hb : b < wD.heap.size := Nat.lt_of_lt_of_le hb HB9.size
    replace HB9 := yh HB9
    go_wp2_with fail
    refine (cJ x.ab 1 999 wD).mono ?_
    rintro e w1 ⟨rfl, h1⟩
    subst w1
    cases d10 : (decide (1 ≤ x.ab) && decide (x.ab ≤ 999))
    ·
     have HF := yh ((uh HRS).trans (iq d10))
     clear d10
     go_wp2_with fail
     go_ret
     exact ⟨by rw [uh HF]; rfl, uh HB9⟩
    skip
    go_wp2_with fail
    refine (dK x.src wD).mono ?_
    rintro e w1 ⟨rfl, h1⟩
    subst w1
    cases d12 : (decide (1 ≤ x.src) && decide (x.src ≤ 5))
    ·
     have HF := yh ((uh HRS).trans (ks d12))
     clear d12
     go_wp2_with fail
     go_ret
     exact ⟨by rw [uh HF]; rfl, uh HB9⟩
    skip
    go_wp2_with fail
    refine (dK x.dst wD).mono ?_
    rintro e w1 ⟨rfl, h1⟩
    subst w1
    cases d14 : (decide (1 ≤ x.dst) && decide (x.dst ≤ 5))
    ·
     have HF := yh ((uh HRS).trans (kl d14))
     clear d14
     go_wp2_with fail
     go_ret
     exact ⟨by rw [uh HF]; rfl, uh HB9⟩
    skip
    go_wp2_with fail
    refine (cJ x.index 0 40 wD).mono ?_
    rintro e w1 ⟨rfl, h1⟩
    subst w1
    cases d16 : (decide (0 ≤ x.index) && decide (x.index ≤ 40))
    ·
     have HF := yh ((uh HRS).trans (gH d16))
     clear d16
     go_wp2_with fail
     go_ret
     exact ⟨by rw [uh HF]; rfl, uh HB9⟩
    skip
    cases e5 : (x.index == 0)
    ·
     have HF : Hid (aw x = wF x.write) := (uh HRS).trans ((lE d10 d12 d14 d16 (Or.inr e5)).trans (if_neg (by simpa using e2)))
     clear d10 d12 d14 d16
     go_wp2_with fail
     refine (gO b (o + 5) x.write.kind x.write.id _ x.write.aa x.write.seq x.write.vec wD ⟨c5, c6, c7, c8, c9⟩ (ad.bd (uh HWD))).mono ?_
     rintro e w1 ⟨rfl, h1⟩
     subst w1
     go_wp2_with fail
     go_ret
     exact ⟨by rw [uh HF]; rfl, uh HB9⟩
    have HF : Hid (aw x = 3) := (uh HRS).trans (kW e2 e5)
    clear d10 d12 d14 d16
    go_wp2_with fail
    go_ret
    exact ⟨by rw [uh HF]; rfl, uh HB9⟩
   cases e3 : decide (iG x.write)
   ·
    have HF := yh (lM e2 e3)
    go_upto_region 3 with fail
    refine wZz (fun w' => Below wc.heap.size wc w') (Below.refl _ _).drew (fun zq => ?_)
    generalize wc.drew = wD at zq ⊢
    refine tkH 0 zq ?_
    refine tkH 1 zq ?_
    refine tkH 2 zq ?_
    refine tkJ 3 (v := ?vd3_4) ?hd3_4 zq ?rd3_4
    case hd3_4 =>
     intro wS hSw
     have q0 := cZ hSw hb c0
     clear hSw
     exact fZ
    refine rdH 4 (fun K hK => ?_)
    go_simp
    go_at_call 102
    refine (cJ x.kind 1 2 _).mono ?_
    rintro e w1 ⟨rfl, h1⟩
    subst w1
    rw [d1]
    try go_wp2_with fail
    refine hK.out _ _ zq (fun zq => ?_)
    clear hK K
    try simp only [Act.put, pz, py, px]
    refine tkH 5 zq ?_
    refine tkH 6 zq ?_
    refine tkH 7 zq ?_
    refine tkH 8 zq ?_
    refine tkH 9 zq ?_
    refine tkJ 10 (v := ?vd10_10) ?hd10_10 zq ?rd10_10
    case hd10_10 =>
     intro wS hSw
     have q2 := cZ hSw hb c2
     clear hSw
     exact fZ
    refine tkH 11 zq ?_
    refine tkH 12 zq ?_
    refine tkH 13 zq ?_
    refine tkJ 14 (v := ?vd14_14) ?hd14_14 zq ?rd14_14
    case hd14_14 =>
     intro wS hSw
     have q3 := cZ hSw hb c3
     clear hSw
     exact fZ
    refine tkH 15 zq ?_
    refine tkH 16 zq ?_
    refine tkH 17 zq ?_
    refine tkH 18 zq ?_
    refine tkH 19 zq ?_
    refine tkH 20 zq ?_
    refine tkH 21 zq ?_
    refine tkH 22 zq ?_
    refine tkH 23 zq ?_
    refine dZ ?_
    have HB9 := yh zq
    clear zq
    go_wp2_with fail
    go_ret
    exact ⟨by rw [uh HF]; rfl, uh HB9⟩
   have HRS := yh (jZ d1 e1 e3)
   go_upto_region 3 with fail
   refine wZz (fun w' => Below wc.heap.size wc w') (Below.refl _ _).drew (fun zq => ?_)
   generalize wc.drew = wD at zq ⊢
   refine tkH 0 zq ?_
   refine tkH 1 zq ?_
   refine tkH 2 zq ?_
   refine tkJ 3 (v := ?ve3_4) ?he3_4 zq ?re3_4
   case he3_4 =>
    intro wS hSw
    have q0 := cZ hSw hb c0
    clear hSw
    exact fZ
   refine rdH 4 (fun K hK => ?_)
   go_simp
   go_at_call 102
   refine (cJ x.kind 1 2 _).mono ?_
   rintro e w1 ⟨rfl, h1⟩
   subst w1
   rw [d1]
   try go_wp2_with fail
   refine hK.out _ _ zq (fun zq => ?_)
   clear hK K
   try simp only [Act.put, pz, py, px]
   refine tkH 5 zq ?_
   refine tkH 6 zq ?_
   refine tkH 7 zq ?_
   refine tkH 8 zq ?_
   refine tkH 9 zq ?_
   refine tkJ 10 (v := ?ve10_10) ?he10_10 zq ?re10_10
   case he10_10 =>
    intro wS hSw
    have q2 := cZ hSw hb c2
    clear hSw
    exact fZ
   refine tkH 11 zq ?_
   refine tkH 12 zq ?_
   refine tkH 13 zq ?_
   refine tkJ 14 (v := ?ve14_14) ?he14_14 zq ?re14_14
   case he14_14 =>
    intro wS hSw
    have q3 := cZ hSw hb c3
    clear hSw
    exact fZ
   refine tkH 15 zq ?_
   refine tkH 16 zq ?_
   refine tkH 17 zq ?_
   refine tkH 18 zq ?_
   refine tkH 19 zq ?_
   refine tkH 20 zq ?_
   refine tkH 21 zq ?_
   refine tkH 22 zq ?_
   refine tkH 23 zq ?_
   refine dZ ?_
   have HB9 := zq
   clear zq
   have c0 : wD.cell? ⟨b, o, none⟩ = some (.int .i64 x.kind) := (HB9.cell (p := ⟨b, o, none⟩) hb).trans c0
   have c1 : wD.cell? ⟨b, o + 1, none⟩ = some (.int .i64 x.ab) := (HB9.cell (p := ⟨b, o + 1, none⟩) hb).trans c1
   have c2 : wD.cell? ⟨b, o + 2, none⟩ = some (.int .i64 x.src) := (HB9.cell (p := ⟨b, o + 2, none⟩) hb).trans c2
   have c3 : wD.cell? ⟨b, o + 3, none⟩ = some (.int .i64 x.dst) := (HB9.cell (p := ⟨b, o + 3, none⟩) hb).trans c3
   have c4 : wD.cell? ⟨b, o + 4, none⟩ = some (.int .i64 x.index) := (HB9.cell (p := ⟨b, o + 4, none⟩) hb).trans c4
   have c5 : wD.cell? ⟨b, o + 5, none⟩ = some (.int .i64 x.write.kind) := (HB9.cell (p := ⟨b, o + 5, none⟩) hb).trans c5
   have c6 : wD.cell? ⟨b, o + 5 + 1, none⟩ = some (.int .i64 x.write.id) := (HB9.cell (p := ⟨b, o + 5 + 1, none⟩) hb).trans c6
   have c7 : wD.cell? ⟨b, o + 5 + 2, none⟩ = some (.slice a x.write.vec.length d) := (HB9.cell (p := ⟨b, o + 5 + 2, none⟩) hb).trans c7
   have c8 : wD.cell? ⟨b, o + 5 + 3, none⟩ = some (.int .i64 x.write.aa) := (HB9.cell (p := ⟨b, o + 5 + 3, none⟩) hb).trans c8
   have c9 : wD.cell? ⟨b, o + 5 + 4, none⟩ = some (.int .i64 x.write.seq) := (HB9.cell (p := ⟨b, o + 5 + 4, none⟩) hb).trans c9
   have HWD := yh ((uh H).af HB9)
   replace hb : b < wD.heap.size := Nat.lt_of_lt_of_le hb HB9.size
   replace HB9 := yh HB9
   go_wp2_with fail
   refine (cJ x.ab 1 999 wD).mono ?_
   rintro e w1 ⟨rfl, h1⟩
   subst w1
   cases d12 : (decide (1 ≤ x.ab) && decide (x.ab ≤ 999))
   ·
    have HF := yh ((uh HRS).trans (iq d12))
    clear d12
    go_wp2_with fail
    go_ret
    exact ⟨by rw [uh HF]; rfl, uh HB9⟩
   skip
   go_wp2_with fail
   refine (dK x.src wD).mono ?_
   rintro e w1 ⟨rfl, h1⟩
   subst w1
   cases d14 : (decide (1 ≤ x.src) && decide (x.src ≤ 5))
   ·
    have HF := yh ((uh HRS).trans (ks d14))
    clear d14
    go_wp2_with fail
    go_ret
    exact ⟨by rw [uh HF]; rfl, uh HB9⟩
   skip
   go_wp2_with fail
   refine (dK x.dst wD).mono ?_
   rintro e w1 ⟨rfl, h1⟩
   subst w1
   cases d16 : (decide (1 ≤ x.dst) && decide (x.dst ≤ 5))
   ·
    have HF := yh ((uh HRS).trans (kl d16))
    clear d16
    go_wp2_with fail
    go_ret
    exact ⟨by rw [uh HF]; rfl, uh HB9⟩
   skip
   go_wp2_with fail
   refine (cJ x.index 0 40 wD).mono ?_
   rintro e w1 ⟨rfl, h1⟩
   subst w1
   cases d18 : (decide (0 ≤ x.index) && decide (x.index ≤ 40))
   ·
    have HF := yh ((uh HRS).trans (gH d18))
    clear d18
    go_wp2_with fail
    go_ret
    exact ⟨by rw [uh HF]; rfl, uh HB9⟩
   skip
   have HF : Hid (aw x = 0) := (uh HRS).trans ((lE d12 d14 d16 d18 (Or.inl e2)).trans (if_pos (beq_iff_eq.1 e2)))
   clear d12 d14 d16 d18
   go_wp2_with fail
   go_ret
   exact ⟨by rw [uh HF]; rfl, uh HB9⟩
  have HF := yh (lb e1)
  go_upto_region 3 with fail
  refine wZz (fun w' => Below wc.heap.size wc w') (Below.refl _ _).drew (fun zq => ?_)
  generalize wc.drew = wD at zq ⊢
  refine tkH 0 zq ?_
  refine tkH 1 zq ?_
  refine tkH 2 zq ?_
  refine tkJ 3 (v := ?vb3_4) ?hb3_4 zq ?rb3_4
  case hb3_4 =>
   intro wS hSw
   have q0 := cZ hSw hb c0
   clear hSw
   exact fZ
  refine rdH 4 (fun K hK => ?_)
  go_simp
  go_at_call 102
  refine (cJ x.kind 1 2 _).mono ?_
  rintro e w1 ⟨rfl, h1⟩
  subst w1
  rw [d1]
  try go_wp2_with fail
  refine hK.out _ _ zq (fun zq => ?_)
  clear hK K
  try simp only [Act.put, pz, py, px]
  refine tkH 5 zq ?_
  refine tkH 6 zq ?_
  refine tkH 7 zq ?_
  refine tkH 8 zq ?_
  refine tkH 9 zq ?_
  refine tkJ 10 (v := ?vb10_10) ?hb10_10 zq ?rb10_10
  case hb10_10 =>
   intro wS hSw
   have q2 := cZ hSw hb c2
   clear hSw
   exact fZ
  refine tkH 11 zq ?_
  refine tkH 12 zq ?_
  refine tkH 13 zq ?_
  refine tkJ 14 (v := ?vb14_14) ?hb14_14 zq ?rb14_14
  case hb14_14 =>
   intro wS hSw
   have q3 := cZ hSw hb c3
   clear hSw
   exact fZ
  refine tkH 15 zq ?_
  refine tkH 16 zq ?_
  refine tkH 17 zq ?_
  refine skH 18 zq ?_
  refine skH 19 zq ?_
  refine skH 20 zq ?_
  refine skH 21 zq ?_
  refine skH 22 zq ?_
  refine tkH 23 zq ?_
  refine dZ ?_
  have HB9 := yh zq
  clear zq
  go_wp2_with fail
  go_ret
  exact ⟨by rw [uh HF]; rfl, uh HB9⟩
theorem kL {w : World} {b off cap : Nat} {xs : List bq} (h : (ad.sl ad.bm).Reads w [.slice (some ⟨b, off, none⟩) xs.length cap] xs) {k : Nat} (hk : k < xs.length) : ∃ a d, lF w b (off + k * 10) xs[k] (.slice a xs[k].write.vec.length d) ∧ (ad.sl ad.int).Reads w [.slice a xs[k].write.vec.length d] xs[k].write.vec := by
 obtain ⟨row, hc, hr⟩ := ad.aR h hk
 obtain ⟨a, d, rfl, R⟩ := bE hr
 exact ⟨a, d, ⟨hc 0 (by decide), hc 1 (by decide), hc 2 (by decide), hc 3 (by decide), hc 4 (by decide), hc 5 (by decide), hc 6 (by decide), hc 7 (by decide), hc 8 (by decide), hc 9 (by decide)⟩, jL R⟩
theorem lk {xs : List bq} (h : 40 < xs.length) : aH xs = 2 := by rw [aH, if_pos h]
theorem lY {xs : List bq} (h : ¬ 40 < xs.length) : aH xs = bB xs := by rw [aH, if_neg h]
theorem jA (v : Value) (xs : List bq) (w : World) (h : (ad.sl ad.bm).Reads w [v] xs) :
  Calls Tryz.prog 149 #[v] w fun e w' => e = .returned (.int .i64 (aH xs)) ∧ Below w.heap.size w w' := by
 obtain ⟨ao, cap, rfl⟩ := aB h
 have hbig := h.cK
 have H := yh h
 clear h
 by_cases h40 : 40 < xs.length
 ·
  have HF := yh (lk h40)
  have hd : decide ((40 : Int) < (xs.length : Int)) = true := by simp; omega
  go_enter Tryz.func149, Tryz.ntmps149
  go_wp2_with fail
  go_ret
  exact ⟨by rw [uh HF]; rfl, Below.refl _ _⟩
 have HF := yh (lY h40)
 have hd : decide ((40 : Int) < (xs.length : Int)) = false := by simp; omega
 go_enter Tryz.func149, Tryz.ntmps149
 go_wp2_with fail
 clear hd
 go_loopw [3] (fun i wr => ∃ k : Nat, k ≤ xs.length ∧ i = .int .i64 k ∧ (∀ j (hj : j < xs.length), j < k → aw xs[j] = 0) ∧ Below w.heap.size w wr) (fun i _ => xs.length - (intOf i).toNat)
 case atStart => exact ⟨0, Nat.zero_le _, rfl, fun j _ hj => by omega, Below.refl _ _⟩
 case round =>
  obtain ⟨k, hk, rfl, hz, hB⟩ := hrel
  by_cases hlt : k < xs.length
  ·
   obtain ⟨b, off, rfl, hbl⟩ := ad.aD (uh H) (by omega)
   obtain ⟨a, d, hM, R⟩ := kL ((uh H).af hB) hlt
   have HL := yh (lj b (off + k * 10) a d xs[k] wr hM R)
   have hbr : b < wr.heap.size := Nat.lt_of_lt_of_le hbl hB.size
   have hdl : decide ((k : Int) < (xs.length : Int)) = true := by simp; omega
   have HB := yh hB
   have HAT : Hid (aw xs[k] ≠ 0 → bB xs = aw xs[k]) := fun q => eh hlt (fun j hj => hz j (by omega) hj) q
   have HZ2 : Hid (aw xs[k] = 0 → ∀ j (hj : j < xs.length), j < k + 1 → aw xs[j] = 0) := by
    intro h0 j hj hjk
    by_cases hjk2 : j < k
    ·
     exact hz j hj hjk2
    obtain rfl : j = k := by omega
    exact h0
   clear hz hM R hB
   generalize aw xs[k] = f at *
   go_wp2_with fail
   refine (uh HL).mono ?_
   rintro e w2 ⟨rfl, hb⟩
   have HB2 := yh ((uh HB).trans (hb.mono (uh HB).size))
   clear hb HL HB
   by_cases hf : f = 0
   ·
    have HZ3 := yh (uh HZ2 hf)
    subst hf
    clear HZ2 HAT
    go_wp2_with fail
    go_roundw
    case rel => exact ⟨k + 1, by omega, by go_num, uh HZ3, uh HB2⟩
    case measure => simp [intOf]; omega
   have HA := yh ((uh HF).trans (uh HAT hf))
   have hd : (f != 0) = true := by simpa using hf
   clear HZ2 HAT hf
   go_wp2_with fail
   go_ret
   exact ⟨by rw [uh HA]; rfl, uh HB2⟩
  obtain rfl : k = xs.length := by omega
  have hdl : decide ((xs.length : Int) < (xs.length : Int)) = false := by simp
  have HA := yh ((uh HF).trans (dP fun x hx => by obtain ⟨j, hj, rfl⟩ := List.getElem_of_mem hx; exact hz j hj hj))
  have HB := yh hB
  clear hB hz
  go_wp2_with fail
  go_ret
  exact ⟨by rw [uh HA]; rfl, uh HB⟩
theorem jr (a3 : Option Addr) (d3 : Nat) (a4 : Option Addr) (d4 : Nat) (a5 : Option Addr) (d5 : Nat) (a6 : Option Addr) (d6 : Nat) (x : aN) (xb : Nat) (w : World) (hX : ar 0 #[.int .i64 x.now, .int .i64 x.events, .int .i64 x.chain.ab, .slice a3 x.chain.ids.length d3, .slice a4 x.nodes.length d4, .slice a5 x.msgs.length d5, .slice a6 x.ae.length d6] 37 w xb) (h : ad.a8.Reads w [.int .i64 x.now, .int .i64 x.events, .int .i64 x.chain.ab, .slice a3 x.chain.ids.length d3, .slice a4 x.nodes.length d4, .slice a5 x.msgs.length d5, .slice a6 x.ae.length d6] x) :
  Calls Tryz.prog 85 #[.pointer (some ⟨xb, 0, none⟩)] w fun e w' => e = .returned (.int .i64 (aT x)) ∧ Below w.heap.size w w' := by
 have HX := yh hX
 have HR := yh h
 have HB := yh (Below.refl w.heap.size w)
 have HP : Hid (aT x = if (decide (0 ≤ x.now) && decide (x.now ≤ 9000)) = false ∨ (decide (0 ≤ x.events) && decide (x.events ≤ 9999)) = false then 3 else if ay x.chain ≠ 0 then ay x.chain
  else if x.nodes.length < 1 ∨ 5 < x.nodes.length then 2 else if aW x ≠ 0 then aW x else if aH x.msgs ≠ 0 then aH x.msgs
  else if 60 < x.ae.length then 2 else if (x.ae.drop 0).all (df x) = true then 0 else 3) := by
  have e1 : (¬ (0 ≤ x.now ∧ x.now ≤ 9000) ∨ ¬ (0 ≤ x.events ∧ x.events ≤ 9999)) ↔ ((decide (0 ≤ x.now) && decide (x.now ≤ 9000)) = false ∨ (decide (0 ≤ x.events) && decide (x.events ≤ 9999)) = false) := by
   simp only [Bool.and_eq_false_iff, decide_eq_false_iff_not]
   omega
  show aT x = _
  unfold aT
  by_cases h1 : (decide (0 ≤ x.now) && decide (x.now ≤ 9000)) = false ∨ (decide (0 ≤ x.events) && decide (x.events ≤ 9999)) = false
  ·
   rw [if_pos (e1.2 h1), if_pos h1]
  rw [if_neg (fun q => h1 (e1.1 q)), if_neg h1]
  rfl
 clear h hX
 generalize aT x = r at *
 have z0 := ar.at (uh HX) 0 _ rfl
 have z1 := ar.at (uh HX) 1 _ rfl
 have z2 := ar.at (uh HX) 2 _ rfl
 have z3 := ar.at (uh HX) 3 _ rfl
 have z4 := ar.at (uh HX) 4 _ rfl
 have z5 := ar.at (uh HX) 5 _ rfl
 have z6 := ar.at (uh HX) 6 _ rfl
 simp only [ga, gb, gc] at z0 z1 z2 z3 z4 z5 z6
 have xl := (uh HX).lt
 go_enter Tryz.func85, Tryz.ntmps85
 go_wp2_with fail
 refine (cJ x.now 0 9000 w).mono ?_
 rintro e w2 ⟨rfl, h2⟩
 subst w2
 cases d1 : (decide (0 ≤ x.now) && decide (x.now ≤ 9000))
 ·
  replace HP := yh ((uh HP).trans (if_pos (Or.inl d1)))
  clear d1
  go_wp2_with fail
  go_ret
  exact ⟨by rw [uh HP]; rfl, uh HB⟩
 go_wp2_with fail
 refine (cJ x.events 0 9999 w).mono ?_
 rintro e w2 ⟨rfl, h2⟩
 subst w2
 cases d2 : (decide (0 ≤ x.events) && decide (x.events ≤ 9999))
 ·
  replace HP := yh ((uh HP).trans (if_pos (Or.inr d2)))
  clear d1 d2
  go_wp2_with fail
  go_ret
  exact ⟨by rw [uh HP]; rfl, uh HB⟩
 replace HP := yh ((uh HP).trans (if_neg (by rw [d1, d2]; simp)))
 clear d1 d2
 go_wp2_with fail
 obtain ⟨_, _, _, _, _, _, _, _, hq, RC, -, -, -⟩ := aF (uh HR)
 simp only [List.cons.injEq, Value.slice.injEq, and_true, true_and] at hq
 obtain ⟨⟨rfl, rfl⟩, ⟨rfl, rfl⟩, ⟨rfl, rfl⟩, rfl, rfl⟩ := hq
 obtain ⟨_, _, hq, RI⟩ := ba RC
 simp only [List.cons.injEq, Value.slice.injEq, and_true, true_and] at hq
 obtain ⟨rfl, rfl⟩ := hq
 refine (jl xb 2 _ _ x.chain w ⟨(uh HX).at 2 _ rfl, (uh HX).at 3 _ rfl⟩ RI).mono ?_
 rintro e w2 ⟨rfl, h2⟩
 subst w2
 clear RC RI
 by_cases d3 : ay x.chain ≠ 0
 ·
  have hd : (ay x.chain != 0) = true := by simpa using d3
  replace HP := yh ((uh HP).trans (if_pos d3))
  clear d3
  generalize ay x.chain = c at *
  go_wp2_with fail
  go_ret
  exact ⟨by rw [uh HP]; rfl, uh HB⟩
 replace HP := yh ((uh HP).trans (if_neg d3))
 have hd : ay x.chain = 0 := by simpa using d3
 clear d3
 rw [hd]
 clear hd
 have hbn := (show x.nodes.length ≤ 9223372036854775807 from by
  obtain ⟨_, _, _, _, _, _, _, _, hq, -, RN, -, -⟩ := aF (uh HR)
  exact RN.cK)
 by_cases d4 : x.nodes.length < 1 ∨ 5 < x.nodes.length
 ·
  replace HP := yh ((uh HP).trans (if_pos d4))
  by_cases d5 : x.nodes.length < 1
  ·
   have hd : decide ((x.nodes.length : Int) < 1) = true := by simp; omega
   clear d4 d5
   go_wp2_with fail
   go_ret
   exact ⟨by rw [uh HP]; rfl, uh HB⟩
  have hd : decide ((x.nodes.length : Int) < 1) = false := by simp; omega
  have hd2 : decide ((5 : Int) < (x.nodes.length : Int)) = true := by simp; omega
  clear d4 d5
  go_wp2_with fail
  go_ret
  exact ⟨by rw [uh HP]; rfl, uh HB⟩
 replace HP := yh ((uh HP).trans (if_neg d4))
 have hd : decide ((x.nodes.length : Int) < 1) = false := by simp; omega
 have hd2 : decide ((5 : Int) < (x.nodes.length : Int)) = false := by simp; omega
 have hn5 : x.nodes.length ≤ 5 := by omega
 clear d4
 go_wp2_with fail
 refine (jx _ _ _ _ _ _ _ _ x xb w (uh HX) (uh HR)).mono ?_
 rintro e w4 ⟨rfl, hb⟩
 clear xl hn5 z0 z1 z2 z3 z4 z5 z6
 replace HX := yh ((uh HX).au hb)
 replace HR := yh ((uh HR).af hb)
 replace HB := bZ HB hb
 clear hb
 have z0 := ar.at (uh HX) 0 _ rfl
 have z1 := ar.at (uh HX) 1 _ rfl
 have z2 := ar.at (uh HX) 2 _ rfl
 have z3 := ar.at (uh HX) 3 _ rfl
 have z4 := ar.at (uh HX) 4 _ rfl
 have z5 := ar.at (uh HX) 5 _ rfl
 have z6 := ar.at (uh HX) 6 _ rfl
 simp only [ga, gb, gc] at z0 z1 z2 z3 z4 z5 z6
 have xl := (uh HX).lt
 by_cases d3 : aW x ≠ 0
 ·
  have hd : (aW x != 0) = true := by simpa using d3
  replace HP := yh ((uh HP).trans (if_pos d3))
  clear d3
  generalize aW x = c at *
  go_wp2_with fail
  go_ret
  exact ⟨by rw [uh HP]; rfl, uh HB⟩
 replace HP := yh ((uh HP).trans (if_neg d3))
 have hd : aW x = 0 := by simpa using d3
 clear d3
 rw [hd]
 clear hd
 go_wp2_with fail
 obtain ⟨_, _, _, _, _, _, _, _, hq, -, -, RM, -⟩ := aF (uh HR)
 simp only [List.cons.injEq, Value.slice.injEq, and_true, true_and] at hq
 obtain ⟨⟨rfl, rfl⟩, ⟨rfl, rfl⟩, ⟨rfl, rfl⟩, rfl, rfl⟩ := hq
 refine (jA _ x.msgs w4 RM).mono ?_
 rintro e w5 ⟨rfl, hb⟩
 clear RM xl z0 z1 z2 z3 z4 z5 z6
 replace HX := yh ((uh HX).au hb)
 replace HR := yh ((uh HR).af hb)
 replace HB := bZ HB hb
 clear hb
 have z0 := ar.at (uh HX) 0 _ rfl
 have z1 := ar.at (uh HX) 1 _ rfl
 have z2 := ar.at (uh HX) 2 _ rfl
 have z3 := ar.at (uh HX) 3 _ rfl
 have z4 := ar.at (uh HX) 4 _ rfl
 have z5 := ar.at (uh HX) 5 _ rfl
 have z6 := ar.at (uh HX) 6 _ rfl
 simp only [ga, gb, gc] at z0 z1 z2 z3 z4 z5 z6
 have xl := (uh HX).lt
 by_cases d3 : aH x.msgs ≠ 0
 ·
  have hd : (aH x.msgs != 0) = true := by simpa using d3
  replace HP := yh ((uh HP).trans (if_pos d3))
  clear d3
  generalize aH x.msgs = c at *
  go_wp2_with fail
  go_ret
  exact ⟨by rw [uh HP]; rfl, uh HB⟩
 replace HP := yh ((uh HP).trans (if_neg d3))
 have hd : aH x.msgs = 0 := by simpa using d3
 clear d3
 rw [hd]
 clear hd
 obtain ⟨_, _, _, _, _, _, _, _, hq, -, -, -, RE⟩ := aF (uh HR)
 simp only [List.cons.injEq, Value.slice.injEq, and_true, true_and] at hq
 obtain ⟨⟨rfl, rfl⟩, ⟨rfl, rfl⟩, ⟨rfl, rfl⟩, rfl, rfl⟩ := hq
 have HE := yh RE
 have hbig := RE.cK
 clear RE
 by_cases d4 : 60 < x.ae.length
 ·
  replace HP := yh ((uh HP).trans (if_pos d4))
  have hd : decide ((60 : Int) < (x.ae.length : Int)) = true := by simp; omega
  clear d4
  go_wp2_with fail
  go_ret
  exact ⟨by rw [uh HP]; rfl, uh HB⟩
 replace HP := yh ((uh HP).trans (if_neg d4))
 have hd : decide ((60 : Int) < (x.ae.length : Int)) = false := by simp; omega
 clear d4
 go_wp2_with fail
 clear z0 z1 z2 z3 z4 z5 z6 xl hd
 go_loopw [6] (fun i wr => ∃ k : Nat, k ≤ x.ae.length ∧ i = .int .i64 k ∧ r = (if (x.ae.drop k).all (df x) = true then 0 else 3) ∧ Below w5.heap.size w5 wr) (fun i _ => x.ae.length - (intOf i).toNat)
 case atStart => exact ⟨0, Nat.zero_le _, rfl, uh HP, Below.refl _ _⟩
 case round =>
  obtain ⟨k, hk, rfl, hF, hB⟩ := hrel
  clear HP
  have hX2 := (uh HX).au hB
  have y6 := ar.at hX2 6 _ rfl
  simp only [ga, gb, gc] at y6
  have xl := hX2.lt
  have HB3 := yh ((uh HB).trans (hB.mono (uh HB).size))
  by_cases hlt : k < x.ae.length
  ·
   obtain ⟨b, off, rfl, hbl⟩ := ad.aD (uh HE) (by omega)
   obtain ⟨row, hcl, hr⟩ := ad.aR (uh HE) hlt
   rw [List.drop_eq_getElem_cons hlt, List.all_cons] at hF
   have hdl : decide ((k : Int) < (x.ae.length : Int)) = true := by simp; omega
   have hrl := hr.len
   obtain ⟨aq, dq, av, dv, ah, dh, rfl, -⟩ := bu hr
   have hE : cr #[.int .i64 (x.ae[k]).kind, .int .i64 (x.ae[k]).aa, .int .i64 (x.ae[k]).seq, .int .i64 (x.ae[k]).id, .slice aq (x.ae[k]).query.length dq, .int .i64 (x.ae[k]).k, .int .i64 (x.ae[k]).start, .int .i64 (x.ae[k]).fin, .int .i64 (x.ae[k]).place, .slice av (x.ae[k]).vec.length dv, .slice ah (x.ae[k]).aY.length dh] wr b (off + k * 11) := cr.ofRow (A := ad.aJ) (k := k) (fun m hm => (hB.cell (p := ⟨b, off + k * 11 + m, none⟩) hbl).trans (hcl m hm)) hrl (Nat.lt_of_lt_of_le hbl hB.size)
   have HL := yh (jF _ _ _ _ _ _ _ _ _ _ _ _ _ _ x _ xb b (off + k * 11) wr hX2 hE)
   have HF := yh hF
   have HBQ := yh hB
   clear hF hX2 hB hr hrl hcl hE
   generalize x.ae[k] = z at *
   go_wp2_with fail
   refine (uh HL).mono ?_
   rintro e w5 ⟨rfl, hb⟩
   replace HB3 := bZ HB3 hb
   replace HBQ := bZ HBQ hb
   clear HL hb y6
   generalize df x z = q at *
   cases q
   ·
    replace HF := yh ((uh HF).trans (if_neg (by simp)))
    go_wp2_with fail
    go_ret
    exact ⟨by rw [uh HF]; rfl, uh HB3⟩
   rw [Bool.true_and] at HF
   go_wp2_with fail
   go_roundw
   case rel => exact ⟨k + 1, by omega, by go_num, uh HF, uh HBQ⟩
   case measure => simp [intOf]; omega
  obtain rfl : k = x.ae.length := by omega
  rw [List.drop_length, List.all_nil, if_pos rfl] at hF
  have hdl : decide ((x.ae.length : Int) < (x.ae.length : Int)) = false := by simp
  have HF := yh hF
  clear hF hB hX2
  go_wp2_with fail
  go_ret
  exact ⟨by rw [uh HF]; rfl, uh HB3⟩
theorem kb (a3 : Option Addr) (d3 : Nat) (d4 : Nat) (a5 : Option Addr) (d5 : Nat) (a6 : Option Addr) (d6 : Nat) (b off k : Nat) (x : aN) (xb : Nat) (w : World) (hX : ar 0 #[.int .i64 x.now, .int .i64 x.events, .int .i64 x.chain.ab, .slice a3 x.chain.ids.length d3, .slice (some ⟨b, off, none⟩) x.nodes.length d4, .slice a5 x.msgs.length d5, .slice a6 x.ae.length d6] 37 w xb) (h : ad.a8.Reads w [.int .i64 x.now, .int .i64 x.events, .int .i64 x.chain.ab, .slice a3 x.chain.ids.length d3, .slice (some ⟨b, off, none⟩) x.nodes.length d4, .slice a5 x.msgs.length d5, .slice a6 x.ae.length d6] x) (hok : cS x) (hk : k < x.nodes.length) (ht : cj x = (k : Int) + 1) :
  Calls Tryz.prog 82 #[.pointer (some ⟨xb, 0, none⟩)] w fun e w' => e = .returned (.pointer (some ⟨b, off + k * 7, none⟩)) ∧ Below w.heap.size w w' := by
 obtain ⟨_, _, _, _, _, _, _, _, hq, RC, RN, -, -⟩ := aF h
 simp only [List.cons.injEq, Value.slice.injEq, and_true, true_and] at hq
 obtain ⟨⟨rfl, rfl⟩, ⟨rfl, rfl⟩, -, -, -⟩ := hq
 obtain ⟨_, _, hq, RI⟩ := ba RC
 simp only [List.cons.injEq, Value.slice.injEq, and_true, true_and] at hq
 obtain ⟨rfl, rfl⟩ := hq
 have hl := (bH hok.chain).len
 obtain ⟨n, hn⟩ : ∃ n, x.chain.ids.length = n + 1 := ⟨x.chain.ids.length - 1, by omega⟩
 obtain ⟨bi, oi, rfl, hbi⟩ := ad.aD RI (by omega)
 have hlt : n < x.chain.ids.length := by omega
 have c1 := bF RI hlt
 have hv : x.chain.ids[n] = (k : Int) + 1 := by
  rw [← ht]
  have e : x.chain.ids.length - 1 = n := by omega
  simp [cj, e, List.getD, hlt]
 rw [hv] at c1
 have z3 := ar.at hX 3 _ rfl
 have z4 := ar.at hX 4 _ rfl
 simp only [ga, gb, gc] at z3 z4
 have zl := hX.lt
 have hn5 := hok.some
 have hw1 : IntKind.i64.wrap (k : Int) = (k : Int) := by
  rw [IntKind.wrap_i64]
  omega
 have hw2 : IntKind.i64.wrap (n : Int) = (n : Int) := by
  rw [IntKind.wrap_i64]
  omega
 have hw3 : IntKind.i64.wrap ((n : Int) + 1 - 1) = (n : Int) := by
  rw [IntKind.wrap_i64]
  omega
 have hki : (k : Int) < (x.nodes.length : Int) := by omega
 have hki0 : (0 : Int) ≤ (k : Int) := by omega
 have hni : (n : Int) < ((n + 1 : Nat) : Int) := by omega
 have hni0 : (0 : Int) ≤ (n : Int) := by omega
 have hns : ((n + 1 : Nat) : Int) - 1 = (n : Int) := by omega
 have HB := yh (Below.refl w.heap.size w)
 have HBD : Hid (∀ m, Below w.heap.size w (w.drewN m)) := fun m => bO (Below.refl _ _) m
 rw [hn] at z3
 clear hX h RC RN RI hl hlt hv hok hn5 hn ht
 go_enter Tryz.func82, Tryz.ntmps82
 go_wp2_with fail
 go_quiet (fail)
 go_wp2_with fail
 go_ret
 exact ⟨rfl, uh HBD _⟩
end Go.Proofs.YtecagllmonckgaaGreat
