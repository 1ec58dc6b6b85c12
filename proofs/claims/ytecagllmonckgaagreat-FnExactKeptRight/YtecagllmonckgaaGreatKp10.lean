/-
  Texts of this proof in one: SpecNodeF, SpecNodeO, SpecNode9, SpecChainF, SpecChainO, SpecWN.
  Their conditions stand in their theorems.
-/
import Derived.Test.YtecagllmonckgaaGreatKp05
import Derived.Test.YtecagllmonckgaaGreatKp09
import Derived.Test.YtecagllmonckgaaGreatKp06
import Derived.Deep.RegionHeld3
import Derived.Test.YtecagllmonckgaaGreatKp00
import Derived.Test.YtecagllmonckgaaGreatChecked
set_option maxRecDepth 100000
set_option maxHeartbeats 4000000
namespace Go.Proofs.YtecagllmonckgaaGreat
open Go.RowKit
theorem mg (x : Int) (w : World) : Calls Tryz.prog 208 #[.int .i64 x] w fun e w' => e = .returned (.bool (decide (1 ≤ x) && decide (x ≤ 5))) ∧ w' = w := by
 go_enter Tryz.func208, Tryz.ntmps208
 go_wp2_with fail
 refine (cM x 1 5 _).mono ?_
 rintro e w1 ⟨rfl, rfl⟩
 go_wp2_with fail
 go_ret
 exact ⟨rfl, rfl⟩
theorem jH (b o : Nat) (a4 : Option Addr) (d4 : Nat) (x : bu) (w : World) (hX : cr #[.int .i64 x.id, .bool x.up, .int .i64 x.ab, .int .i64 x.ak, .slice a4 x.writes.length d4, .int .i64 x.sure, .int .i64 x.clean] w b o) (R4 : (ad.sl ad.ag).Reads w [.slice a4 x.writes.length d4] x.writes) :
  Calls Tryz.prog 209 #[.pointer (some ⟨b, o, none⟩)] w fun e w' => e = .returned (.int .i64 (aC x)) ∧ Below w.heap.size w w' := by
 have hbig := R4.da
 have x0 := hX.at 0 _ rfl
 have x2 := hX.at 2 _ rfl
 have x3 := hX.at 3 _ rfl
 have x4 := hX.at 4 _ rfl
 simp only [List.getElem_toArray, List.getElem_cons_zero, List.getElem_cons_succ, Nat.add_zero] at x0 x2 x3 x4
 have xl := hX.lt
 have HX := yh hX
 have H4 := yh R4
 clear hX R4
 go_enter Tryz.func209, Tryz.ntmps209
 go_wp2_with fail
 refine (mg x.id w).mono ?_
 rintro e w1 ⟨rfl, h1⟩
 subst w1
 cases d1 : (decide (1 ≤ x.id) && decide (x.id ≤ 5))
 ·
  have HF := yh (lu d1)
  clear d1
  go_wp2_with fail
  go_ret
  exact ⟨by rw [uh HF]; rfl, Below.refl _ _⟩
 go_wp2_with fail
 refine (cM x.ab 0 999 w).mono ?_
 rintro e w1 ⟨rfl, h1⟩
 subst w1
 cases d2 : (decide (0 ≤ x.ab) && decide (x.ab ≤ 999))
 ·
  have HF := yh (hZ d2)
  clear d1 d2
  go_wp2_with fail
  go_ret
  exact ⟨by rw [uh HF]; rfl, Below.refl _ _⟩
 go_wp2_with fail
 refine (cM x.ak 0 9999 w).mono ?_
 rintro e w1 ⟨rfl, h1⟩
 subst w1
 cases d3 : (decide (0 ≤ x.ak) && decide (x.ak ≤ 9999))
 ·
  have HF := yh (gG d3)
  clear d1 d2 d3
  go_wp2_with fail
  go_ret
  exact ⟨by rw [uh HF]; rfl, Below.refl _ _⟩
 have HF := yh (iY d1 d2 d3)
 clear d1 d2 d3
 by_cases hn : 40 < x.writes.length
 ·
  have ht : bn x.writes = 2 := by rw [bn, if_pos hn]
  have HF1 := yh ((uh HF).trans (if_pos (by rw [ht]; decide)))
  rw [ht] at HF1
  have hd : decide ((40 : Int) < (x.writes.length : Int)) = true := by simp; omega
  clear HF ht
  go_wp2_with fail
  go_ret
  exact ⟨by rw [uh HF1]; rfl, Below.refl _ _⟩
 have hn2 : x.writes.length ≤ 40 := by omega
 have HW := yh (iH _ x.writes w (uh H4))
 have hwf : aD x.writes = bh x.writes := by rw [aD, if_neg (by omega)]
 rw [hwf] at HW
 clear hwf
 go_wp2_with fail
 refine (uh HW).mono ?_
 rintro e w1 ⟨rfl, hb1⟩
 subst w1
 by_cases hs : bh x.writes = 0
 ·
  rw [hs]
  have HO := yh (kI _ x.writes w (uh H4) (by omega))
  have HT : Hid (bn x.writes = if bH [] x.writes = false then 6 else 0) := by show bn x.writes = _; rw [bn, if_neg hn, if_neg (by simpa using hs)]
  clear HW hs hn
  cases ho : bH [] x.writes
  ·
   rw [ho] at HO HT
   have HT6 : Hid (bn x.writes = 6) := uh HT
   have HF1 := yh ((uh HF).trans (if_pos (by rw [uh HT6]; decide)))
   rw [uh HT6] at HF1
   clear ho HT HF HT6
   go_wp2_with fail
   refine (uh HO).mono ?_
   rintro e w2 ⟨rfl, hb⟩
   have HB := yh hb
   clear hb HO
   go_wp2_with fail
   go_ret
   exact ⟨by rw [uh HF1]; rfl, uh HB⟩
  rw [ho] at HO HT
  have HT0 : Hid (bn x.writes = 0) := uh HT
  have HF1 := yh ((uh HF).trans (if_neg (by rw [uh HT0]; decide)))
  clear ho HT HF HT0
  go_wp2_with fail
  refine (uh HO).mono ?_
  rintro e w2 ⟨rfl, hb⟩
  have HB := yh hb
  have hX2 := (uh HX).ar hb
  have hl2 := hX2.lt
  clear hb HO x0 x2 x3 x4 xl HX H4
  go_wp2_with fail
  cases q4 : (decide (0 ≤ x.sure) && decide (x.sure ≤ (x.writes.length : Int)))
  ·
   have HF2 := yh ((uh HF1).trans (if_neg (by rw [q4]; simp)))
   clear HF1
   refine wZz (fun w' => w' = w2.drew) rfl (fun zq => ?_)
   refine tkH 0 zq ?_
   refine tkH 1 zq ?_
   refine tkH 2 zq ?_
   refine tkJ 3 (v := ?va3) ?ha3 zq ?ra3
   case ha3 =>
    intro wS hSw
    have y5 : wS.cell? ⟨b, o + 5, none⟩ = some (.int .i64 x.sure) := by rw [hSw]; exact hX2.at 5 _ rfl
    clear hSw
    exact fZ
   refine tkH 4 zq ?_
   refine tkH 5 zq ?_
   refine tkH 6 zq ?_
   refine tkJ 7 (v := ?va7) ?ha7 zq ?ra7
   case ha7 =>
    intro wS hSw
    have y4 : wS.cell? ⟨b, o + 4, none⟩ = some (.slice a4 x.writes.length d4) := by rw [hSw]; exact hX2.at 4 _ rfl
    clear hSw
    exact fZ
   refine tkH 8 zq ?_
   refine rdH 9 (fun K hK => ?_)
   go_simp
   go_at_call 102
   refine (cM x.sure 0 (x.writes.length : Int) _).mono ?_
   rintro e w3 ⟨rfl, rfl⟩
   rw [q4]
   try go_wp2_with fail
   refine hK.out _ _ rfl (fun zq => ?_)
   clear hK K
   try simp only [Act.put, pz, py, px]
   refine tkH 10 zq ?_
   refine tkH 11 zq ?_
   refine skH 12 zq ?_
   refine skH 13 zq ?_
   refine skH 14 zq ?_
   refine skH 15 zq ?_
   refine skH 16 zq ?_
   refine skH 17 zq ?_
   refine skH 18 zq ?_
   refine skH 19 zq ?_
   refine skH 20 zq ?_
   refine skH 21 zq ?_
   refine tkH 22 zq ?_
   refine dZ ?_
   clear zq
   go_wp2_with fail
   go_ret
   exact ⟨by rw [uh HF2]; rfl, (uh HB).drew⟩
  cases q5 : (decide (0 ≤ x.clean) && decide (x.clean ≤ x.sure))
  ·
   have HF2 := yh ((uh HF1).trans (if_neg (by rw [q5]; simp)))
   clear HF1
   refine wZz (fun w' => w' = w2.drew) rfl (fun zq => ?_)
   refine tkH 0 zq ?_
   refine tkH 1 zq ?_
   refine tkH 2 zq ?_
   refine tkJ 3 (v := ?vb3) ?hb3 zq ?rb3
   case hb3 =>
    intro wS hSw
    have y5 : wS.cell? ⟨b, o + 5, none⟩ = some (.int .i64 x.sure) := by rw [hSw]; exact hX2.at 5 _ rfl
    clear hSw
    exact fZ
   refine tkH 4 zq ?_
   refine tkH 5 zq ?_
   refine tkH 6 zq ?_
   refine tkJ 7 (v := ?vb7) ?hb7 zq ?rb7
   case hb7 =>
    intro wS hSw
    have y4 : wS.cell? ⟨b, o + 4, none⟩ = some (.slice a4 x.writes.length d4) := by rw [hSw]; exact hX2.at 4 _ rfl
    clear hSw
    exact fZ
   refine tkH 8 zq ?_
   refine rdH 9 (fun K hK => ?_)
   go_simp
   go_at_call 102
   refine (cM x.sure 0 (x.writes.length : Int) _).mono ?_
   rintro e w3 ⟨rfl, rfl⟩
   rw [q4]
   try go_wp2_with fail
   refine hK.out _ _ rfl (fun zq => ?_)
   clear hK K
   try simp only [Act.put, pz, py, px]
   refine tkH 10 zq ?_
   refine tkH 11 zq ?_
   refine tkH 12 zq ?_
   refine tkH 13 zq ?_
   refine tkH 14 zq ?_
   refine tkJ 15 (v := ?vb15) ?hb15 zq ?rb15
   case hb15 =>
    intro wS hSw
    have y6 : wS.cell? ⟨b, o + 6, none⟩ = some (.int .i64 x.clean) := by rw [hSw]; exact hX2.at 6 _ rfl
    clear hSw
    exact fZ
   refine tkH 16 zq ?_
   refine tkH 17 zq ?_
   refine tkH 18 zq ?_
   refine tkJ 19 (v := ?vb19) ?hb19 zq ?rb19
   case hb19 =>
    intro wS hSw
    have y5 : wS.cell? ⟨b, o + 5, none⟩ = some (.int .i64 x.sure) := by rw [hSw]; exact hX2.at 5 _ rfl
    clear hSw
    exact fZ
   refine rdH 20 (fun K hK => ?_)
   go_simp
   go_at_call 102
   refine (cM x.clean 0 x.sure _).mono ?_
   rintro e w3 ⟨rfl, rfl⟩
   rw [q5]
   try go_wp2_with fail
   refine hK.out _ _ rfl (fun zq => ?_)
   clear hK K
   try simp only [Act.put, pz, py, px]
   refine tkH 21 zq ?_
   refine tkH 22 zq ?_
   refine dZ ?_
   clear zq
   go_wp2_with fail
   go_ret
   exact ⟨by rw [uh HF2]; rfl, (uh HB).drew⟩
  have HF2 := yh ((uh HF1).trans (if_pos ⟨q4, q5⟩))
  clear HF1
  refine wZz (fun w' => w' = w2.drew) rfl (fun zq => ?_)
  refine tkH 0 zq ?_
  refine tkH 1 zq ?_
  refine tkH 2 zq ?_
  refine tkJ 3 (v := ?vc3) ?hc3 zq ?rc3
  case hc3 =>
   intro wS hSw
   have y5 : wS.cell? ⟨b, o + 5, none⟩ = some (.int .i64 x.sure) := by rw [hSw]; exact hX2.at 5 _ rfl
   clear hSw
   exact fZ
  refine tkH 4 zq ?_
  refine tkH 5 zq ?_
  refine tkH 6 zq ?_
  refine tkJ 7 (v := ?vc7) ?hc7 zq ?rc7
  case hc7 =>
   intro wS hSw
   have y4 : wS.cell? ⟨b, o + 4, none⟩ = some (.slice a4 x.writes.length d4) := by rw [hSw]; exact hX2.at 4 _ rfl
   clear hSw
   exact fZ
  refine tkH 8 zq ?_
  refine rdH 9 (fun K hK => ?_)
  go_simp
  go_at_call 102
  refine (cM x.sure 0 (x.writes.length : Int) _).mono ?_
  rintro e w3 ⟨rfl, rfl⟩
  rw [q4]
  try go_wp2_with fail
  refine hK.out _ _ rfl (fun zq => ?_)
  clear hK K
  try simp only [Act.put, pz, py, px]
  refine tkH 10 zq ?_
  refine tkH 11 zq ?_
  refine tkH 12 zq ?_
  refine tkH 13 zq ?_
  refine tkH 14 zq ?_
  refine tkJ 15 (v := ?vc15) ?hc15 zq ?rc15
  case hc15 =>
   intro wS hSw
   have y6 : wS.cell? ⟨b, o + 6, none⟩ = some (.int .i64 x.clean) := by rw [hSw]; exact hX2.at 6 _ rfl
   clear hSw
   exact fZ
  refine tkH 16 zq ?_
  refine tkH 17 zq ?_
  refine tkH 18 zq ?_
  refine tkJ 19 (v := ?vc19) ?hc19 zq ?rc19
  case hc19 =>
   intro wS hSw
   have y5 : wS.cell? ⟨b, o + 5, none⟩ = some (.int .i64 x.sure) := by rw [hSw]; exact hX2.at 5 _ rfl
   clear hSw
   exact fZ
  refine rdH 20 (fun K hK => ?_)
  go_simp
  go_at_call 102
  refine (cM x.clean 0 x.sure _).mono ?_
  rintro e w3 ⟨rfl, rfl⟩
  rw [q5]
  try go_wp2_with fail
  refine hK.out _ _ rfl (fun zq => ?_)
  clear hK K
  try simp only [Act.put, pz, py, px]
  refine tkH 21 zq ?_
  refine tkH 22 zq ?_
  refine dZ ?_
  clear zq q4 q5
  go_wp2_with fail
  cases hu : x.up
  ·
   rw [hu] at HF2
   cases e1 : (x.sure != (x.writes.length : Int))
   ·
    cases e2 : (x.clean != 0)
    ·
     cases e3 : (x.ak != 0)
     ·
      have HF3 : Hid (aC x = 0) := (uh HF2).trans (if_neg (by simp at e1 e2 e3; simp [bW, ← e1, e2, e3]))
      clear HF2
      refine wZz (fun w' => w' = w2.drew.drew) rfl (fun zq => ?_)
      refine tkH 0 zq ?_
      refine tkH 1 zq ?_
      refine tkH 2 zq ?_
      refine tkJ 3 (v := ?vd3) ?hd3 zq ?rd3
      case hd3 =>
       intro wS hSw
       have y1 : wS.cell? ⟨b, o + 1, none⟩ = some (.bool x.up) := by rw [hSw]; exact hX2.at 1 _ rfl
       clear hSw
       exact fZ
      refine tkH 4 zq ?_
      refine tkH 5 zq ?_
      refine tkH 6 zq ?_
      refine tkH 7 zq ?_
      refine tkH 8 zq ?_
      refine tkJ 9 (v := ?vd9) ?hd9 zq ?rd9
      case hd9 =>
       intro wS hSw
       have y5 : wS.cell? ⟨b, o + 5, none⟩ = some (.int .i64 x.sure) := by rw [hSw]; exact hX2.at 5 _ rfl
       clear hSw
       exact fZ
      refine tkH 10 zq ?_
      refine tkH 11 zq ?_
      refine tkH 12 zq ?_
      refine tkJ 13 (v := ?vd13) ?hd13 zq ?rd13
      case hd13 =>
       intro wS hSw
       have y4 : wS.cell? ⟨b, o + 4, none⟩ = some (.slice a4 x.writes.length d4) := by rw [hSw]; exact hX2.at 4 _ rfl
       clear hSw
       exact fZ
      refine tkH 14 zq ?_
      refine tkH 15 zq ?_
      refine tkH 16 zq ?_
      refine tkH 17 zq ?_
      refine tkH 18 zq ?_
      refine tkH 19 zq ?_
      refine tkJ 20 (v := ?vd20) ?hd20 zq ?rd20
      case hd20 =>
       intro wS hSw
       have y6 : wS.cell? ⟨b, o + 6, none⟩ = some (.int .i64 x.clean) := by rw [hSw]; exact hX2.at 6 _ rfl
       clear hSw
       exact fZ
      refine tkH 21 zq ?_
      refine tkH 22 zq ?_
      refine tkH 23 zq ?_
      refine tkH 24 zq ?_
      refine tkH 25 zq ?_
      refine tkH 26 zq ?_
      refine tkJ 27 (v := ?vd27) ?hd27 zq ?rd27
      case hd27 =>
       intro wS hSw
       have y3 : wS.cell? ⟨b, o + 3, none⟩ = some (.int .i64 x.ak) := by rw [hSw]; exact hX2.at 3 _ rfl
       clear hSw
       exact fZ
      refine tkH 28 zq ?_
      refine tkH 29 zq ?_
      refine tkH 30 zq ?_
      refine dZ ?_
      clear zq
      go_wp2_with fail
      go_ret
      exact ⟨by rw [uh HF3]; rfl, (uh HB).drew.drew⟩
     have HF3 : Hid (aC x = 1) := (uh HF2).trans (if_pos ⟨rfl, by simp at e3; simp [bW, e3]⟩)
     clear HF2
     refine wZz (fun w' => w' = w2.drew.drew) rfl (fun zq => ?_)
     refine tkH 0 zq ?_
     refine tkH 1 zq ?_
     refine tkH 2 zq ?_
     refine tkJ 3 (v := ?ve3) ?he3 zq ?re3
     case he3 =>
      intro wS hSw
      have y1 : wS.cell? ⟨b, o + 1, none⟩ = some (.bool x.up) := by rw [hSw]; exact hX2.at 1 _ rfl
      clear hSw
      exact fZ
     refine tkH 4 zq ?_
     refine tkH 5 zq ?_
     refine tkH 6 zq ?_
     refine tkH 7 zq ?_
     refine tkH 8 zq ?_
     refine tkJ 9 (v := ?ve9) ?he9 zq ?re9
     case he9 =>
      intro wS hSw
      have y5 : wS.cell? ⟨b, o + 5, none⟩ = some (.int .i64 x.sure) := by rw [hSw]; exact hX2.at 5 _ rfl
      clear hSw
      exact fZ
     refine tkH 10 zq ?_
     refine tkH 11 zq ?_
     refine tkH 12 zq ?_
     refine tkJ 13 (v := ?ve13) ?he13 zq ?re13
     case he13 =>
      intro wS hSw
      have y4 : wS.cell? ⟨b, o + 4, none⟩ = some (.slice a4 x.writes.length d4) := by rw [hSw]; exact hX2.at 4 _ rfl
      clear hSw
      exact fZ
     refine tkH 14 zq ?_
     refine tkH 15 zq ?_
     refine tkH 16 zq ?_
     refine tkH 17 zq ?_
     refine tkH 18 zq ?_
     refine tkH 19 zq ?_
     refine tkJ 20 (v := ?ve20) ?he20 zq ?re20
     case he20 =>
      intro wS hSw
      have y6 : wS.cell? ⟨b, o + 6, none⟩ = some (.int .i64 x.clean) := by rw [hSw]; exact hX2.at 6 _ rfl
      clear hSw
      exact fZ
     refine tkH 21 zq ?_
     refine tkH 22 zq ?_
     refine tkH 23 zq ?_
     refine tkH 24 zq ?_
     refine tkH 25 zq ?_
     refine tkH 26 zq ?_
     refine tkJ 27 (v := ?ve27) ?he27 zq ?re27
     case he27 =>
      intro wS hSw
      have y3 : wS.cell? ⟨b, o + 3, none⟩ = some (.int .i64 x.ak) := by rw [hSw]; exact hX2.at 3 _ rfl
      clear hSw
      exact fZ
     refine tkH 28 zq ?_
     refine tkH 29 zq ?_
     refine tkH 30 zq ?_
     refine dZ ?_
     clear zq
     go_wp2_with fail
     go_ret
     exact ⟨by rw [uh HF3]; rfl, (uh HB).drew.drew⟩
    have HF3 : Hid (aC x = 1) := (uh HF2).trans (if_pos ⟨rfl, by simp at e2; simp [bW, e2]⟩)
    clear HF2
    refine wZz (fun w' => w' = w2.drew.drew) rfl (fun zq => ?_)
    refine tkH 0 zq ?_
    refine tkH 1 zq ?_
    refine tkH 2 zq ?_
    refine tkJ 3 (v := ?vf3) ?hf3 zq ?rf3
    case hf3 =>
     intro wS hSw
     have y1 : wS.cell? ⟨b, o + 1, none⟩ = some (.bool x.up) := by rw [hSw]; exact hX2.at 1 _ rfl
     clear hSw
     exact fZ
    refine tkH 4 zq ?_
    refine tkH 5 zq ?_
    refine tkH 6 zq ?_
    refine tkH 7 zq ?_
    refine tkH 8 zq ?_
    refine tkJ 9 (v := ?vf9) ?hf9 zq ?rf9
    case hf9 =>
     intro wS hSw
     have y5 : wS.cell? ⟨b, o + 5, none⟩ = some (.int .i64 x.sure) := by rw [hSw]; exact hX2.at 5 _ rfl
     clear hSw
     exact fZ
    refine tkH 10 zq ?_
    refine tkH 11 zq ?_
    refine tkH 12 zq ?_
    refine tkJ 13 (v := ?vf13) ?hf13 zq ?rf13
    case hf13 =>
     intro wS hSw
     have y4 : wS.cell? ⟨b, o + 4, none⟩ = some (.slice a4 x.writes.length d4) := by rw [hSw]; exact hX2.at 4 _ rfl
     clear hSw
     exact fZ
    refine tkH 14 zq ?_
    refine tkH 15 zq ?_
    refine tkH 16 zq ?_
    refine tkH 17 zq ?_
    refine tkH 18 zq ?_
    refine tkH 19 zq ?_
    refine tkJ 20 (v := ?vf20) ?hf20 zq ?rf20
    case hf20 =>
     intro wS hSw
     have y6 : wS.cell? ⟨b, o + 6, none⟩ = some (.int .i64 x.clean) := by rw [hSw]; exact hX2.at 6 _ rfl
     clear hSw
     exact fZ
    refine tkH 21 zq ?_
    refine tkH 22 zq ?_
    refine tkH 23 zq ?_
    refine skH 24 zq ?_
    refine skH 25 zq ?_
    refine skH 26 zq ?_
    refine skH 27 zq ?_
    refine skH 28 zq ?_
    refine tkH 29 zq ?_
    refine tkH 30 zq ?_
    refine dZ ?_
    clear zq
    go_wp2_with fail
    go_ret
    exact ⟨by rw [uh HF3]; rfl, (uh HB).drew.drew⟩
   have HF3 : Hid (aC x = 1) := (uh HF2).trans (if_pos ⟨rfl, by simp at e1; simp [bW, e1]⟩)
   clear HF2
   refine wZz (fun w' => w' = w2.drew.drew) rfl (fun zq => ?_)
   refine tkH 0 zq ?_
   refine tkH 1 zq ?_
   refine tkH 2 zq ?_
   refine tkJ 3 (v := ?vg3) ?hg3 zq ?rg3
   case hg3 =>
    intro wS hSw
    have y1 : wS.cell? ⟨b, o + 1, none⟩ = some (.bool x.up) := by rw [hSw]; exact hX2.at 1 _ rfl
    clear hSw
    exact fZ
   refine tkH 4 zq ?_
   refine tkH 5 zq ?_
   refine tkH 6 zq ?_
   refine tkH 7 zq ?_
   refine tkH 8 zq ?_
   refine tkJ 9 (v := ?vg9) ?hg9 zq ?rg9
   case hg9 =>
    intro wS hSw
    have y5 : wS.cell? ⟨b, o + 5, none⟩ = some (.int .i64 x.sure) := by rw [hSw]; exact hX2.at 5 _ rfl
    clear hSw
    exact fZ
   refine tkH 10 zq ?_
   refine tkH 11 zq ?_
   refine tkH 12 zq ?_
   refine tkJ 13 (v := ?vg13) ?hg13 zq ?rg13
   case hg13 =>
    intro wS hSw
    have y4 : wS.cell? ⟨b, o + 4, none⟩ = some (.slice a4 x.writes.length d4) := by rw [hSw]; exact hX2.at 4 _ rfl
    clear hSw
    exact fZ
   refine tkH 14 zq ?_
   refine tkH 15 zq ?_
   refine tkH 16 zq ?_
   refine skH 17 zq ?_
   refine skH 18 zq ?_
   refine skH 19 zq ?_
   refine skH 20 zq ?_
   refine skH 21 zq ?_
   refine tkH 22 zq ?_
   refine tkH 23 zq ?_
   refine skH 24 zq ?_
   refine skH 25 zq ?_
   refine skH 26 zq ?_
   refine skH 27 zq ?_
   refine skH 28 zq ?_
   refine tkH 29 zq ?_
   refine tkH 30 zq ?_
   refine dZ ?_
   clear zq
   go_wp2_with fail
   go_ret
   exact ⟨by rw [uh HF3]; rfl, (uh HB).drew.drew⟩
  have HF3 : Hid (aC x = 0) := (uh HF2).trans (if_neg (by rw [hu]; simp))
  clear HF2
  refine wZz (fun w' => w' = w2.drew.drew) rfl (fun zq => ?_)
  refine tkH 0 zq ?_
  refine tkH 1 zq ?_
  refine tkH 2 zq ?_
  refine tkJ 3 (v := ?vh3) ?hh3 zq ?rh3
  case hh3 =>
   intro wS hSw
   have y1 : wS.cell? ⟨b, o + 1, none⟩ = some (.bool x.up) := by rw [hSw]; exact hX2.at 1 _ rfl
   clear hSw
   exact fZ
  refine tkH 4 zq ?_
  refine tkH 5 zq ?_
  refine skH 6 zq ?_
  refine skH 7 zq ?_
  refine skH 8 zq ?_
  refine skH 9 zq ?_
  refine skH 10 zq ?_
  refine skH 11 zq ?_
  refine skH 12 zq ?_
  refine skH 13 zq ?_
  refine skH 14 zq ?_
  refine skH 15 zq ?_
  refine skH 16 zq ?_
  refine skH 17 zq ?_
  refine skH 18 zq ?_
  refine skH 19 zq ?_
  refine skH 20 zq ?_
  refine skH 21 zq ?_
  refine skH 22 zq ?_
  refine skH 23 zq ?_
  refine skH 24 zq ?_
  refine skH 25 zq ?_
  refine skH 26 zq ?_
  refine skH 27 zq ?_
  refine skH 28 zq ?_
  refine skH 29 zq ?_
  refine tkH 30 zq ?_
  refine dZ ?_
  clear zq
  go_wp2_with fail
  go_ret
  exact ⟨by rw [uh HF3]; rfl, (uh HB).drew.drew⟩
 have hd : (bh x.writes != 0) = true := by simpa using hs
 have HT : Hid (bn x.writes = bh x.writes) := by show bn x.writes = _; rw [bn, if_neg hn, if_pos hs]
 have HF1 := yh ((uh HF).trans (if_pos (by rw [uh HT]; exact hs)))
 rw [uh HT] at HF1
 clear HF HT hs HW
 generalize bh x.writes = c at *
 go_wp2_with fail
 go_ret
 exact ⟨by rw [uh HF1]; rfl, Below.refl _ _⟩
theorem dU (x : Int) (w : World) : Calls Tryz.prog 208 #[.int .i64 x] w fun e w' => e = .returned (.bool (decide (1 ≤ x) && decide (x ≤ 5))) ∧ w' = w := by
 go_enter Tryz.func208, Tryz.ntmps208
 go_wp2_with fail
 refine (cM x 1 5 _).mono ?_
 rintro e w1 ⟨rfl, rfl⟩
 go_wp2_with fail
 go_ret
 exact ⟨rfl, rfl⟩
theorem jI {x : ba} (h : (decide (1 ≤ x.ab) && decide (x.ab ≤ 999)) = false) : ax x = 3 := by
 rw [ax, if_neg]
 simpa using h
theorem kh {x : ba} (h : (decide (1 ≤ x.ab) && decide (x.ab ≤ 999)) = true) (hn : x.ids.length < 1 ∨ 5 < x.ids.length) : ax x = 2 := by
 rw [ax, if_pos (by simpa using h), if_neg (by omega)]
theorem lK {x : ba} (h : (decide (1 ≤ x.ab) && decide (x.ab ≤ 999)) = true) (hn : ¬ x.ids.length < 1) (hm : ¬ 5 < x.ids.length) : ax x = dP (x.ids.take 0) (x.ids.drop 0) := by
 rw [ax, if_pos (by simpa using h), if_pos (by omega)]
 simp
def gL (w : World) (b o : Nat) (v : Value) (x : ba) : Prop := w.cell? ⟨b, o, none⟩ = some (.int .i64 x.ab) ∧ w.cell? ⟨b, o + 1, none⟩ = some v
theorem kl (b o : Nat) (a : Option Addr) (d : Nat) (x : ba) (id : Int) (w : World) (hX : gL w b o (.slice a x.ids.length d) x) (R : (ad.sl ad.int).Reads w [.slice a x.ids.length d] x.ids) :
  Calls Tryz.prog 169 #[.pointer (some ⟨b, o, none⟩), .int .i64 id] w fun e w' => e = .returned (.int .i64 (aR x.ids id)) ∧ w' = w := by
 have x1 := hX.2
 have xl : b < w.heap.size := World.block_lt_of_cell? _ _ x1
 have hbig := R.da
 have H := yh R
 clear hX R
 generalize x.ids = ids at *
 go_enter Tryz.func169, Tryz.ntmps169
 go_wp2_with fail
 go_loop [5] (fun i => ∃ k : Nat, k ≤ ids.length ∧ i = .int .i64 k ∧ (∀ j (hj : j < ids.length), j < k → ids[j] ≠ id)) (fun i => ids.length - (intOf i).toNat)
 case atStart => exact ⟨0, Nat.zero_le _, rfl, fun j _ h => by omega⟩
 case round =>
  obtain ⟨k, hk, rfl, hz⟩ := hrel
  by_cases hlt : k < ids.length
  ·
   obtain ⟨b2, off, rfl, -⟩ := ad.aF (uh H) (by omega)
   have c1 := cm (uh H) hlt
   cases hq : (ids[k] == id)
   ·
    have HZ : Hid (∀ j (hj : j < ids.length), j < k + 1 → ids[j] ≠ id) := fun j hj hjk => by
     by_cases h2 : j < k
     ·
      exact hz j hj h2
     obtain rfl : j = k := by omega
     simpa using hq
    clear hz
    generalize ids[k] = z at *
    go_wp2_with fail
    go_round
    case rel => exact ⟨k + 1, by omega, by go_num, uh HZ⟩
    case measure => simp [intOf]; omega
   have HP := yh (eh hlt (by simpa using hq) (fun j hj => hz j (by omega) hj))
   clear hz
   generalize ids[k] = z at *
   go_wp2_with fail
   go_ret
   exact ⟨by rw [uh HP]; rfl, rfl⟩
  obtain rfl : k = ids.length := by omega
  have HP := yh (et (id := id) (fun j hj => hz j hj hj))
  clear hz
  go_wp2_with fail
  go_ret
  exact ⟨by rw [uh HP]; rfl, rfl⟩
theorem jB (b o : Nat) (a : Option Addr) (d : Nat) (x : ba) (w : World) (hX : gL w b o (.slice a x.ids.length d) x) (R : (ad.sl ad.int).Reads w [.slice a x.ids.length d] x.ids) :
  Calls Tryz.prog 147 #[.pointer (some ⟨b, o, none⟩)] w fun e w' => e = .returned (.int .i64 (ax x)) ∧ w' = w := by
 have x0 := hX.1
 have x1 := hX.2
 have xl : b < w.heap.size := World.block_lt_of_cell? _ _ x1
 have hbig := R.da
 have HX := yh hX
 have H := yh R
 clear hX R
 go_enter Tryz.func147, Tryz.ntmps147
 go_wp2_with fail
 refine (cM x.ab 1 999 w).mono ?_
 rintro e w1 ⟨rfl, h1⟩
 subst w1
 cases d1 : (decide (1 ≤ x.ab) && decide (x.ab ≤ 999))
 ·
  have HF := yh (jI d1)
  clear d1
  go_wp2_with fail
  go_ret
  exact ⟨by rw [uh HF]; rfl, rfl⟩
 by_cases hn : x.ids.length < 1
 ·
  have HF := yh (kh d1 (Or.inl hn))
  have hd : decide ((x.ids.length : Int) < 1) = true := by simp; omega
  clear d1
  go_wp2_with fail
  go_ret
  exact ⟨by rw [uh HF]; rfl, rfl⟩
 have hd : decide ((x.ids.length : Int) < 1) = false := by simp; omega
 by_cases hm : 5 < x.ids.length
 ·
  have HF := yh (kh d1 (Or.inr hm))
  have hd2 : decide ((5 : Int) < (x.ids.length : Int)) = true := by simp; omega
  clear d1
  go_wp2_with fail
  go_ret
  exact ⟨by rw [uh HF]; rfl, rfl⟩
 have HF := yh (lK d1 hn hm)
 have hd2 : decide ((5 : Int) < (x.ids.length : Int)) = false := by simp; omega
 clear d1
 go_wp2_with fail
 clear hd hd2
 go_loop [3] (fun i => ∃ k : Nat, k ≤ x.ids.length ∧ i = .int .i64 k ∧ ax x = dP (x.ids.take k) (x.ids.drop k)) (fun i => x.ids.length - (intOf i).toNat)
 case atStart => exact ⟨0, Nat.zero_le _, rfl, uh HF⟩
 case round =>
  obtain ⟨k, hk, rfl, hz⟩ := hrel
  clear HF
  by_cases hlt : k < x.ids.length
  ·
   rw [fG x.ids k hlt] at hz
   have hself := hU hlt
   obtain ⟨b2, off, rfl, -⟩ := ad.aF (uh H) (by omega)
   have c1 := cm (uh H) hlt
   have HP := yh (kl b o (some ⟨b2, off, none⟩) d x x.ids[k] w (uh HX) (uh H))
   have hdl : decide ((k : Int) < (x.ids.length : Int)) = true := by simp; omega
   have HZ := yh hz
   have HS := yh hself
   clear hz hself
   generalize x.ids[k] = z at *
   go_wp2_with fail
   refine (dU z w).mono ?_
   rintro e w1 ⟨rfl, h1⟩
   subst w1
   cases d2 : (decide (1 ≤ z) && decide (z ≤ 5))
   ·
    have hz := uh HZ
    rw [if_neg (by simpa using d2)] at hz
    have HF := yh hz
    clear d2 HZ HS hz
    go_wp2_with fail
    go_ret
    exact ⟨by rw [uh HF]; rfl, rfl⟩
   have hz := uh HZ
   rw [if_pos (by simpa using d2)] at hz
   have HZ2 := yh hz
   clear d2 HZ hz
   go_wp2_with fail
   refine (uh HP).mono ?_
   rintro e w1 ⟨rfl, h1⟩
   subst w1
   clear HP
   by_cases hq : aR x.ids z = (k : Int)
   ·
    have hz := uh HZ2
    rw [if_neg ((uh HS).1 hq)] at hz
    have HF := yh hz
    have hb : (aR x.ids z != (k : Int)) = false := by rw [hq]; simp
    clear HZ2 HS hz hq
    generalize aR x.ids z = p at *
    go_wp2_with fail
    go_round
    case rel => exact ⟨k + 1, by omega, by go_num, uh HF⟩
    case measure => simp [intOf]; omega
   have hz := uh HZ2
   rw [if_pos (Classical.not_not.1 fun hc => hq ((uh HS).2 hc))] at hz
   have HF := yh hz
   have hb : (aR x.ids z != (k : Int)) = true := by rw [bne_iff_ne]; exact hq
   clear HZ2 HS hz hq
   generalize aR x.ids z = p at *
   go_wp2_with fail
   go_ret
   exact ⟨by rw [uh HF]; rfl, rfl⟩
  obtain rfl : k = x.ids.length := by omega
  rw [gw] at hz
  have hdl : decide ((x.ids.length : Int) < (x.ids.length : Int)) = false := by simp
  have HF := yh hz
  clear hz
  go_wp2_with fail
  go_ret
  exact ⟨by rw [uh HF]; rfl, rfl⟩
theorem gj (c : ba) {xs : List bu} {k : Nat} (hk : k < xs.length) : bz c k (xs.drop k) = if aC xs[k] ≠ 0 then aC xs[k] else if (xs[k].id != (k : Int) + 1) = true then 1 else if (decide (c.ab < xs[k].ab) || ((xs[k].up && decide (0 ≤ aR c.ids xs[k].id)) && (xs[k].ab != c.ab))) = true then 7 else bz c (k + 1) (xs.drop (k + 1)) := by
 rw [List.drop_eq_getElem_cons hk, bz]
 by_cases h1 : aC xs[k] ≠ 0
 ·
  rw [if_pos h1, if_pos h1]
 rw [if_neg h1, if_neg h1]
 by_cases h2 : xs[k].id ≠ (k : Int) + 1
 ·
  have b2 : (xs[k].id != (k : Int) + 1) = true := by simpa using h2
  rw [if_pos h2, b2, if_pos rfl]
 have b2 : (xs[k].id != (k : Int) + 1) = false := by simpa using h2
 rw [if_neg h2, b2, if_neg (show ¬ (false = true) by simp)]
 by_cases h3 : c.ab < xs[k].ab ∨ (xs[k].up = true ∧ 0 ≤ aR c.ids xs[k].id ∧ xs[k].ab ≠ c.ab)
 ·
  have b3 : (decide (c.ab < xs[k].ab) || ((xs[k].up && decide (0 ≤ aR c.ids xs[k].id)) && (xs[k].ab != c.ab))) = true := by
   rcases h3 with h3 | ⟨h4, h5, h6⟩
   ·
    simp [h3]
   simp [h4, h5, h6]
  rw [if_pos h3, b3, if_pos rfl]
 rw [if_neg h3, if_neg]
 intro q
 apply h3
 simp only [Bool.or_eq_true, Bool.and_eq_true, decide_eq_true_eq, bne_iff_ne] at q
 rcases q with q | ⟨⟨q1, q2⟩, q3⟩
 ·
  exact Or.inl q
 exact Or.inr ⟨q1, q2, q3⟩
theorem jd (a3 : Option Addr) (d3 : Nat) (a4 : Option Addr) (d4 : Nat) (a5 : Option Addr) (d5 : Nat) (a6 : Option Addr) (d6 : Nat) (x : aL) (xb : Nat) (w : World) (hX : aj 0 #[.int .i64 x.now, .int .i64 x.events, .int .i64 x.chain.ab, .slice a3 x.chain.ids.length d3, .slice a4 x.nodes.length d4, .slice a5 x.msgs.length d5, .slice a6 x.ae.length d6] 37 w xb) (h : ad.aS.Reads w [.int .i64 x.now, .int .i64 x.events, .int .i64 x.chain.ab, .slice a3 x.chain.ids.length d3, .slice a4 x.nodes.length d4, .slice a5 x.msgs.length d5, .slice a6 x.ae.length d6] x) :
  Calls Tryz.prog 148 #[.pointer (some ⟨xb, 0, none⟩)] w fun e w' => e = .returned (.int .i64 (aU x)) ∧ Below w.heap.size w w' := by
 obtain ⟨_, _, _, _, _, _, _, _, hq, RC, RN, -, -⟩ := aw h
 simp only [List.cons.injEq, Value.slice.injEq, and_true, true_and] at hq
 obtain ⟨⟨rfl, rfl⟩, ⟨rfl, rfl⟩, ⟨rfl, rfl⟩, rfl, rfl⟩ := hq
 obtain ⟨_, _, hq, RI⟩ := bb RC
 simp only [List.cons.injEq, Value.slice.injEq, and_true, true_and] at hq
 obtain ⟨rfl, rfl⟩ := hq
 have hbig := RI.da
 have hbn := RN.da
 have HI := yh RI
 have HN := yh RN
 have HX := yh hX
 have HQ : Hid (aU x = if bz x.chain 0 (x.nodes.drop 0) ≠ 0 then bz x.chain 0 (x.nodes.drop 0) else if (x.chain.ids.drop 0).all (bm x) = true then 0 else 4) := by
  show aU x = _
  unfold aU
  rfl
 have HV : Hid (∀ n, bz x.chain 0 (x.nodes.drop 0) = n → n ≠ 0 → aU x = n) := fun n h1 h2 => by rw [uh HQ, h1, if_pos h2]
 have HV0 : Hid (bz x.chain 0 (x.nodes.drop 0) = 0 → aU x = if (x.chain.ids.drop 0).all (bm x) = true then 0 else 4) := fun h1 => by rw [uh HQ, h1]; rfl
 clear RC RN RI h hX HQ
 generalize aU x = r at *
 generalize hF0 : bz x.chain 0 (x.nodes.drop 0) = f0 at *
 replace hF0 := hF0.symm
 go_enter Tryz.func148, Tryz.ntmps148
 go_wp2_with fail
 go_loopw [3] (fun i wr => ∃ k : Nat, k ≤ x.nodes.length ∧ i = .int .i64 k ∧ f0 = bz x.chain k (x.nodes.drop k) ∧ Below w.heap.size w wr) (fun i _ => x.nodes.length - (intOf i).toNat)
 case atStart => exact ⟨0, Nat.zero_le _, rfl, hF0, Below.refl _ _⟩
 case round =>
  obtain ⟨k, hk, rfl, hF, hB⟩ := hrel
  clear hF0
  have hX1 := (uh HX).ar hB
  have v2 := aj.at hX1 2 _ rfl
  have v3 := aj.at hX1 4 _ rfl
  have w3 := aj.at hX1 3 _ rfl
  simp only [ga, gb, gc] at v2 v3 w3
  have xl := hX1.lt
  have HX1 := yh hX1
  clear hX1 w3
  by_cases hlt : k < x.nodes.length
  ·
   obtain ⟨b, off, rfl, hbl⟩ := ad.aF (uh HN) (by omega)
   obtain ⟨row, hcl, hr⟩ := ad.aX (uh HN) hlt
   replace hr := hr.af hB
   rw [gj x.chain hlt] at hF
   have hdl : decide ((k : Int) < (x.nodes.length : Int)) = true := by simp; omega
   have hrl := hr.len
   obtain ⟨a4n, d4n, rfl, RW⟩ := a0 hr
   have hRI : cr #[.int .i64 (x.nodes[k]).id, .bool (x.nodes[k]).up, .int .i64 (x.nodes[k]).ab, .int .i64 (x.nodes[k]).ak, .slice a4n (x.nodes[k]).writes.length d4n, .int .i64 (x.nodes[k]).sure, .int .i64 (x.nodes[k]).clean] wr b (off + k * 7) := cr.ofRow (A := ad.aP) (k := k) (fun m hm => (hB.cell (p := ⟨b, off + k * 7 + m, none⟩) hbl).trans (hcl m hm)) hrl (Nat.lt_of_lt_of_le hbl hB.size)
   have hI := (uh HI).af hB
   have HL := yh (jH b (off + k * 7) a4n d4n _ wr hRI RW)
   have HRI := yh hRI
   have HB := yh hB
   have HF := yh hF
   have HI1 := yh hI
   clear hF hB hr hrl hcl hRI hI RW
   generalize hx : x.nodes[k] = n at *
   clear hx
   go_wp2_with fail
   refine (uh HL).mono ?_
   rintro e w5 ⟨rfl, hb⟩
   replace HX1 := yh ((uh HX1).ar hb)
   replace HRI := yh ((uh HRI).ar hb)
   replace HI1 := yh ((uh HI1).af hb)
   replace HB := bZ HB hb
   clear hb HL v2 v3
   by_cases e1 : aC n ≠ 0
   ·
    have hd : (aC n != 0) = true := by simpa using e1
    have HE := yh (uh HV _ ((uh HF).trans (if_pos e1)) e1)
    clear e1
    generalize aC n = c at *
    go_wp2_with fail
    go_ret
    exact ⟨by rw [uh HE]; rfl, uh HB⟩
   replace HF := yh ((uh HF).trans (if_neg e1))
   have hd : aC n = 0 := by simpa using e1
   clear e1
   rw [hd]
   clear hd
   have HB0 := HB
   replace HB := yh (uh HB).drew
   have z0' := (uh HRI).at 0 _ rfl
   have z0 := (uh HRI).drew.at 0 _ rfl
   have z1 := (uh HRI).drew.at 1 _ rfl
   have z2 := (uh HRI).drew.at 2 _ rfl
   have y2 := aj.at (uh HX1).drew 2 _ rfl
   simp only [List.getElem_toArray, List.getElem_cons_zero, List.getElem_cons_succ, Nat.add_zero] at z0' z0 z1 z2 y2
   have xl5 := (uh HX1).lt
   have rl5 := (uh HRI).lt
   have LA : Hid (Calls Tryz.prog 169 #[.pointer (some ⟨xb, 2, none⟩), .int .i64 n.id] w5.drew fun e w' => e = .returned (.int .i64 (aR x.chain.ids n.id)) ∧ w' = w5.drew) := kl xb 2 _ _ x.chain n.id w5.drew ⟨(uh HX1).drew.at 2 _ rfl, (uh HX1).drew.at 3 _ rfl⟩ ((uh HI1).drew 1)
   generalize hid : n.id = id at *
   cases e2 : (id != (k : Int) + 1)
   ·
    replace HF := yh ((uh HF).trans (if_neg (by rw [e2]; simp)))
    clear hid
    generalize hup : n.up = up at *
    generalize hep : n.ab = ep at *
    generalize hce : x.chain.ab = ce at *
    generalize aR x.chain.ids id = p at *
    clear hup hep hce
    cases e3 : decide (ce < ep)
    ·
     cases up
     ·
      replace HF := yh ((uh HF).trans (if_neg (by rw [e3]; simp)))
      go_wp2_with fail
      refine wZz (fun w' => w' = w5.drew) rfl (fun zq => ?_)
      generalize w5.drew = wD at zq z0 z1 z2 y2 HB LA ⊢
      refine tkJ 0 (v := ?vq1_0) ?hq1_0 zq ?rq1_0
      case hq1_0 =>
       intro wS hSw
       subst hSw
       exact fZ
      refine tkJ 1 (v := ?vq1_1) ?hq1_1 zq ?rq1_1
      case hq1_1 =>
       intro wS hSw
       subst hSw
       exact fZ
      refine tkJ 2 (v := ?vq1_2) ?hq1_2 zq ?rq1_2
      case hq1_2 =>
       intro wS hSw
       subst hSw
       exact fZ
      refine tkJ 3 (v := ?vq1_3) ?hq1_3 zq ?rq1_3
      case hq1_3 =>
       intro wS hSw
       subst hSw
       exact fZ
      refine tkJ 4 (v := ?vq1_4) ?hq1_4 zq ?rq1_4
      case hq1_4 =>
       intro wS hSw
       subst hSw
       exact fZ
      refine tkJ 5 (v := ?vq1_5) ?hq1_5 zq ?rq1_5
      case hq1_5 =>
       intro wS hSw
       subst hSw
       exact fZ
      refine tkJ 6 (v := ?vq1_6) ?hq1_6 zq ?rq1_6
      case hq1_6 =>
       intro wS hSw
       subst hSw
       exact fZ
      refine tkJ 7 (v := ?vq1_7) ?hq1_7 zq ?rq1_7
      case hq1_7 =>
       intro wS hSw
       subst hSw
       exact fZ
      refine tkJ 8 (v := ?vq1_8) ?hq1_8 zq ?rq1_8
      case hq1_8 =>
       intro wS hSw
       subst hSw
       exact fZ
      refine tkJ 9 (v := ?vq1_9) ?hq1_9 zq ?rq1_9
      case hq1_9 =>
       intro wS hSw
       subst hSw
       exact fZ
      refine tkJ 10 (v := ?vq1_10) ?hq1_10 zq ?rq1_10
      case hq1_10 =>
       intro wS hSw
       subst hSw
       exact fZ
      refine tkJ 11 (v := ?vq1_11) ?hq1_11 zq ?rq1_11
      case hq1_11 =>
       intro wS hSw
       subst hSw
       exact fZ
      refine tkJ 12 (v := ?vq1_12) ?hq1_12 zq ?rq1_12
      case hq1_12 =>
       intro wS hSw
       subst hSw
       exact fZ
      refine tkJ 13 (v := ?vq1_13) ?hq1_13 zq ?rq1_13
      case hq1_13 =>
       intro wS hSw
       subst hSw
       exact fZ
      refine tkJ 14 (v := ?vq1_14) ?hq1_14 zq ?rq1_14
      case hq1_14 =>
       intro wS hSw
       subst hSw
       exact fZ
      refine tkJ 15 (v := ?vq1_15) ?hq1_15 zq ?rq1_15
      case hq1_15 =>
       intro wS hSw
       subst hSw
       exact fZ
      refine skH 16 zq ?_
      refine skH 17 zq ?_
      refine skH 18 zq ?_
      refine skH 19 zq ?_
      refine skH 20 zq ?_
      refine skH 21 zq ?_
      refine skH 22 zq ?_
      refine skH 23 zq ?_
      refine skH 24 zq ?_
      refine tkJ 25 (v := ?vq1_25) ?hq1_25 zq ?rq1_25
      case hq1_25 =>
       intro wS hSw
       subst hSw
       exact fZ
      refine tkJ 26 (v := ?vq1_26) ?hq1_26 zq ?rq1_26
      case hq1_26 =>
       intro wS hSw
       subst hSw
       exact fZ
      refine skH 27 zq ?_
      refine skH 28 zq ?_
      refine skH 29 zq ?_
      refine skH 30 zq ?_
      refine skH 31 zq ?_
      refine skH 32 zq ?_
      refine skH 33 zq ?_
      refine skH 34 zq ?_
      refine skH 35 zq ?_
      refine skH 36 zq ?_
      refine tkJ 37 (v := ?vq1_37) ?hq1_37 zq ?rq1_37
      case hq1_37 =>
       intro wS hSw
       subst hSw
       exact fZ
      refine tkJ 38 (v := ?vq1_38) ?hq1_38 zq ?rq1_38
      case hq1_38 =>
       intro wS hSw
       subst hSw
       exact fZ
      refine dZ ?_
      clear zq
      go_wp2_with fail
      go_roundw
      case rel => exact ⟨k + 1, by omega, by go_num, uh HF, uh HB⟩
      case measure => simp [intOf]; omega
     cases e4 : decide (0 ≤ p)
     ·
      replace HF := yh ((uh HF).trans (if_neg (by rw [e3, e4]; simp)))
      go_wp2_with fail
      refine wZz (fun w' => w' = w5.drew) rfl (fun zq => ?_)
      generalize w5.drew = wD at zq z0 z1 z2 y2 HB LA ⊢
      refine tkJ 0 (v := ?vq2_0) ?hq2_0 zq ?rq2_0
      case hq2_0 =>
       intro wS hSw
       subst hSw
       exact fZ
      refine tkJ 1 (v := ?vq2_1) ?hq2_1 zq ?rq2_1
      case hq2_1 =>
       intro wS hSw
       subst hSw
       exact fZ
      refine tkJ 2 (v := ?vq2_2) ?hq2_2 zq ?rq2_2
      case hq2_2 =>
       intro wS hSw
       subst hSw
       exact fZ
      refine tkJ 3 (v := ?vq2_3) ?hq2_3 zq ?rq2_3
      case hq2_3 =>
       intro wS hSw
       subst hSw
       exact fZ
      refine tkJ 4 (v := ?vq2_4) ?hq2_4 zq ?rq2_4
      case hq2_4 =>
       intro wS hSw
       subst hSw
       exact fZ
      refine tkJ 5 (v := ?vq2_5) ?hq2_5 zq ?rq2_5
      case hq2_5 =>
       intro wS hSw
       subst hSw
       exact fZ
      refine tkJ 6 (v := ?vq2_6) ?hq2_6 zq ?rq2_6
      case hq2_6 =>
       intro wS hSw
       subst hSw
       exact fZ
      refine tkJ 7 (v := ?vq2_7) ?hq2_7 zq ?rq2_7
      case hq2_7 =>
       intro wS hSw
       subst hSw
       exact fZ
      refine tkJ 8 (v := ?vq2_8) ?hq2_8 zq ?rq2_8
      case hq2_8 =>
       intro wS hSw
       subst hSw
       exact fZ
      refine tkJ 9 (v := ?vq2_9) ?hq2_9 zq ?rq2_9
      case hq2_9 =>
       intro wS hSw
       subst hSw
       exact fZ
      refine tkJ 10 (v := ?vq2_10) ?hq2_10 zq ?rq2_10
      case hq2_10 =>
       intro wS hSw
       subst hSw
       exact fZ
      refine tkJ 11 (v := ?vq2_11) ?hq2_11 zq ?rq2_11
      case hq2_11 =>
       intro wS hSw
       subst hSw
       exact fZ
      refine tkJ 12 (v := ?vq2_12) ?hq2_12 zq ?rq2_12
      case hq2_12 =>
       intro wS hSw
       subst hSw
       exact fZ
      refine tkJ 13 (v := ?vq2_13) ?hq2_13 zq ?rq2_13
      case hq2_13 =>
       intro wS hSw
       subst hSw
       exact fZ
      refine tkJ 14 (v := ?vq2_14) ?hq2_14 zq ?rq2_14
      case hq2_14 =>
       intro wS hSw
       subst hSw
       exact fZ
      refine tkJ 15 (v := ?vq2_15) ?hq2_15 zq ?rq2_15
      case hq2_15 =>
       intro wS hSw
       subst hSw
       exact fZ
      refine tkJ 16 (v := ?vq2_16) ?hq2_16 zq ?rq2_16
      case hq2_16 =>
       intro wS hSw
       subst hSw
       exact fZ
      refine tkJ 17 (v := ?vq2_17) ?hq2_17 zq ?rq2_17
      case hq2_17 =>
       intro wS hSw
       subst hSw
       exact fZ
      refine tkJ 18 (v := ?vq2_18) ?hq2_18 zq ?rq2_18
      case hq2_18 =>
       intro wS hSw
       subst hSw
       exact fZ
      refine tkJ 19 (v := ?vq2_19) ?hq2_19 zq ?rq2_19
      case hq2_19 =>
       intro wS hSw
       subst hSw
       exact fZ
      refine tkJ 20 (v := ?vq2_20) ?hq2_20 zq ?rq2_20
      case hq2_20 =>
       intro wS hSw
       subst hSw
       exact fZ
      refine tkJ 21 (v := ?vq2_21) ?hq2_21 zq ?rq2_21
      case hq2_21 =>
       intro wS hSw
       subst hSw
       exact fZ
      refine tkJ 22 (v := ?vq2_22) ?hq2_22 zq ?rq2_22
      case hq2_22 =>
       intro wS hSw
       subst hSw
       exact fZ
      refine rdH 23 (fun K hK => ?_)
      go_simp
      go_at_call 169
      refine (uh LA).mono ?_
      rintro e u1 ⟨rfl, h1⟩
      subst u1
      try go_wp2_with fail
      refine hK.out _ _ rfl (fun zq => ?_)
      clear hK K
      try simp only [Act.put, pz, py, px]
      refine tkJ 24 (v := ?vq2_24) ?hq2_24 zq ?rq2_24
      case hq2_24 =>
       intro wS hSw
       subst hSw
       exact fZ
      refine tkJ 25 (v := ?vq2_25) ?hq2_25 zq ?rq2_25
      case hq2_25 =>
       intro wS hSw
       subst hSw
       exact fZ
      refine tkJ 26 (v := ?vq2_26) ?hq2_26 zq ?rq2_26
      case hq2_26 =>
       intro wS hSw
       subst hSw
       exact fZ
      refine skH 27 zq ?_
      refine skH 28 zq ?_
      refine skH 29 zq ?_
      refine skH 30 zq ?_
      refine skH 31 zq ?_
      refine skH 32 zq ?_
      refine skH 33 zq ?_
      refine skH 34 zq ?_
      refine skH 35 zq ?_
      refine skH 36 zq ?_
      refine tkJ 37 (v := ?vq2_37) ?hq2_37 zq ?rq2_37
      case hq2_37 =>
       intro wS hSw
       subst hSw
       exact fZ
      refine tkJ 38 (v := ?vq2_38) ?hq2_38 zq ?rq2_38
      case hq2_38 =>
       intro wS hSw
       subst hSw
       exact fZ
      refine dZ ?_
      clear zq
      go_wp2_with fail
      go_roundw
      case rel => exact ⟨k + 1, by omega, by go_num, uh HF, uh HB⟩
      case measure => simp [intOf]; omega
     cases e5 : (ep != ce)
     ·
      replace HF := yh ((uh HF).trans (if_neg (by rw [e3, e4, e5]; simp)))
      go_wp2_with fail
      refine wZz (fun w' => w' = w5.drew) rfl (fun zq => ?_)
      generalize w5.drew = wD at zq z0 z1 z2 y2 HB LA ⊢
      refine tkJ 0 (v := ?vq3_0) ?hq3_0 zq ?rq3_0
      case hq3_0 =>
       intro wS hSw
       subst hSw
       exact fZ
      refine tkJ 1 (v := ?vq3_1) ?hq3_1 zq ?rq3_1
      case hq3_1 =>
       intro wS hSw
       subst hSw
       exact fZ
      refine tkJ 2 (v := ?vq3_2) ?hq3_2 zq ?rq3_2
      case hq3_2 =>
       intro wS hSw
       subst hSw
       exact fZ
      refine tkJ 3 (v := ?vq3_3) ?hq3_3 zq ?rq3_3
      case hq3_3 =>
       intro wS hSw
       subst hSw
       exact fZ
      refine tkJ 4 (v := ?vq3_4) ?hq3_4 zq ?rq3_4
      case hq3_4 =>
       intro wS hSw
       subst hSw
       exact fZ
      refine tkJ 5 (v := ?vq3_5) ?hq3_5 zq ?rq3_5
      case hq3_5 =>
       intro wS hSw
       subst hSw
       exact fZ
      refine tkJ 6 (v := ?vq3_6) ?hq3_6 zq ?rq3_6
      case hq3_6 =>
       intro wS hSw
       subst hSw
       exact fZ
      refine tkJ 7 (v := ?vq3_7) ?hq3_7 zq ?rq3_7
      case hq3_7 =>
       intro wS hSw
       subst hSw
       exact fZ
      refine tkJ 8 (v := ?vq3_8) ?hq3_8 zq ?rq3_8
      case hq3_8 =>
       intro wS hSw
       subst hSw
       exact fZ
      refine tkJ 9 (v := ?vq3_9) ?hq3_9 zq ?rq3_9
      case hq3_9 =>
       intro wS hSw
       subst hSw
       exact fZ
      refine tkJ 10 (v := ?vq3_10) ?hq3_10 zq ?rq3_10
      case hq3_10 =>
       intro wS hSw
       subst hSw
       exact fZ
      refine tkJ 11 (v := ?vq3_11) ?hq3_11 zq ?rq3_11
      case hq3_11 =>
       intro wS hSw
       subst hSw
       exact fZ
      refine tkJ 12 (v := ?vq3_12) ?hq3_12 zq ?rq3_12
      case hq3_12 =>
       intro wS hSw
       subst hSw
       exact fZ
      refine tkJ 13 (v := ?vq3_13) ?hq3_13 zq ?rq3_13
      case hq3_13 =>
       intro wS hSw
       subst hSw
       exact fZ
      refine tkJ 14 (v := ?vq3_14) ?hq3_14 zq ?rq3_14
      case hq3_14 =>
       intro wS hSw
       subst hSw
       exact fZ
      refine tkJ 15 (v := ?vq3_15) ?hq3_15 zq ?rq3_15
      case hq3_15 =>
       intro wS hSw
       subst hSw
       exact fZ
      refine tkJ 16 (v := ?vq3_16) ?hq3_16 zq ?rq3_16
      case hq3_16 =>
       intro wS hSw
       subst hSw
       exact fZ
      refine tkJ 17 (v := ?vq3_17) ?hq3_17 zq ?rq3_17
      case hq3_17 =>
       intro wS hSw
       subst hSw
       exact fZ
      refine tkJ 18 (v := ?vq3_18) ?hq3_18 zq ?rq3_18
      case hq3_18 =>
       intro wS hSw
       subst hSw
       exact fZ
      refine tkJ 19 (v := ?vq3_19) ?hq3_19 zq ?rq3_19
      case hq3_19 =>
       intro wS hSw
       subst hSw
       exact fZ
      refine tkJ 20 (v := ?vq3_20) ?hq3_20 zq ?rq3_20
      case hq3_20 =>
       intro wS hSw
       subst hSw
       exact fZ
      refine tkJ 21 (v := ?vq3_21) ?hq3_21 zq ?rq3_21
      case hq3_21 =>
       intro wS hSw
       subst hSw
       exact fZ
      refine tkJ 22 (v := ?vq3_22) ?hq3_22 zq ?rq3_22
      case hq3_22 =>
       intro wS hSw
       subst hSw
       exact fZ
      refine rdH 23 (fun K hK => ?_)
      go_simp
      go_at_call 169
      refine (uh LA).mono ?_
      rintro e u1 ⟨rfl, h1⟩
      subst u1
      try go_wp2_with fail
      refine hK.out _ _ rfl (fun zq => ?_)
      clear hK K
      try simp only [Act.put, pz, py, px]
      refine tkJ 24 (v := ?vq3_24) ?hq3_24 zq ?rq3_24
      case hq3_24 =>
       intro wS hSw
       subst hSw
       exact fZ
      refine tkJ 25 (v := ?vq3_25) ?hq3_25 zq ?rq3_25
      case hq3_25 =>
       intro wS hSw
       subst hSw
       exact fZ
      refine tkJ 26 (v := ?vq3_26) ?hq3_26 zq ?rq3_26
      case hq3_26 =>
       intro wS hSw
       subst hSw
       exact fZ
      refine tkJ 27 (v := ?vq3_27) ?hq3_27 zq ?rq3_27
      case hq3_27 =>
       intro wS hSw
       subst hSw
       exact fZ
      refine tkJ 28 (v := ?vq3_28) ?hq3_28 zq ?rq3_28
      case hq3_28 =>
       intro wS hSw
       subst hSw
       exact fZ
      refine tkJ 29 (v := ?vq3_29) ?hq3_29 zq ?rq3_29
      case hq3_29 =>
       intro wS hSw
       subst hSw
       exact fZ
      refine tkJ 30 (v := ?vq3_30) ?hq3_30 zq ?rq3_30
      case hq3_30 =>
       intro wS hSw
       subst hSw
       exact fZ
      refine tkJ 31 (v := ?vq3_31) ?hq3_31 zq ?rq3_31
      case hq3_31 =>
       intro wS hSw
       subst hSw
       exact fZ
      refine tkJ 32 (v := ?vq3_32) ?hq3_32 zq ?rq3_32
      case hq3_32 =>
       intro wS hSw
       subst hSw
       exact fZ
      refine tkJ 33 (v := ?vq3_33) ?hq3_33 zq ?rq3_33
      case hq3_33 =>
       intro wS hSw
       subst hSw
       exact fZ
      refine tkJ 34 (v := ?vq3_34) ?hq3_34 zq ?rq3_34
      case hq3_34 =>
       intro wS hSw
       subst hSw
       exact fZ
      refine tkJ 35 (v := ?vq3_35) ?hq3_35 zq ?rq3_35
      case hq3_35 =>
       intro wS hSw
       subst hSw
       exact fZ
      refine tkJ 36 (v := ?vq3_36) ?hq3_36 zq ?rq3_36
      case hq3_36 =>
       intro wS hSw
       subst hSw
       exact fZ
      refine tkJ 37 (v := ?vq3_37) ?hq3_37 zq ?rq3_37
      case hq3_37 =>
       intro wS hSw
       subst hSw
       exact fZ
      refine tkJ 38 (v := ?vq3_38) ?hq3_38 zq ?rq3_38
      case hq3_38 =>
       intro wS hSw
       subst hSw
       exact fZ
      refine dZ ?_
      clear zq
      go_wp2_with fail
      go_roundw
      case rel => exact ⟨k + 1, by omega, by go_num, uh HF, uh HB⟩
      case measure => simp [intOf]; omega
     have HE := yh (uh HV _ ((uh HF).trans (if_pos (by rw [e3, e4, e5]; simp))) (by decide))
     go_wp2_with fail
     refine wZz (fun w' => w' = w5.drew) rfl (fun zq => ?_)
     generalize w5.drew = wD at zq z0 z1 z2 y2 HB LA ⊢
     refine tkJ 0 (v := ?vq4_0) ?hq4_0 zq ?rq4_0
     case hq4_0 =>
      intro wS hSw
      subst hSw
      exact fZ
     refine tkJ 1 (v := ?vq4_1) ?hq4_1 zq ?rq4_1
     case hq4_1 =>
      intro wS hSw
      subst hSw
      exact fZ
     refine tkJ 2 (v := ?vq4_2) ?hq4_2 zq ?rq4_2
     case hq4_2 =>
      intro wS hSw
      subst hSw
      exact fZ
     refine tkJ 3 (v := ?vq4_3) ?hq4_3 zq ?rq4_3
     case hq4_3 =>
      intro wS hSw
      subst hSw
      exact fZ
     refine tkJ 4 (v := ?vq4_4) ?hq4_4 zq ?rq4_4
     case hq4_4 =>
      intro wS hSw
      subst hSw
      exact fZ
     refine tkJ 5 (v := ?vq4_5) ?hq4_5 zq ?rq4_5
     case hq4_5 =>
      intro wS hSw
      subst hSw
      exact fZ
     refine tkJ 6 (v := ?vq4_6) ?hq4_6 zq ?rq4_6
     case hq4_6 =>
      intro wS hSw
      subst hSw
      exact fZ
     refine tkJ 7 (v := ?vq4_7) ?hq4_7 zq ?rq4_7
     case hq4_7 =>
      intro wS hSw
      subst hSw
      exact fZ
     refine tkJ 8 (v := ?vq4_8) ?hq4_8 zq ?rq4_8
     case hq4_8 =>
      intro wS hSw
      subst hSw
      exact fZ
     refine tkJ 9 (v := ?vq4_9) ?hq4_9 zq ?rq4_9
     case hq4_9 =>
      intro wS hSw
      subst hSw
      exact fZ
     refine tkJ 10 (v := ?vq4_10) ?hq4_10 zq ?rq4_10
     case hq4_10 =>
      intro wS hSw
      subst hSw
      exact fZ
     refine tkJ 11 (v := ?vq4_11) ?hq4_11 zq ?rq4_11
     case hq4_11 =>
      intro wS hSw
      subst hSw
      exact fZ
     refine tkJ 12 (v := ?vq4_12) ?hq4_12 zq ?rq4_12
     case hq4_12 =>
      intro wS hSw
      subst hSw
      exact fZ
     refine tkJ 13 (v := ?vq4_13) ?hq4_13 zq ?rq4_13
     case hq4_13 =>
      intro wS hSw
      subst hSw
      exact fZ
     refine tkJ 14 (v := ?vq4_14) ?hq4_14 zq ?rq4_14
     case hq4_14 =>
      intro wS hSw
      subst hSw
      exact fZ
     refine tkJ 15 (v := ?vq4_15) ?hq4_15 zq ?rq4_15
     case hq4_15 =>
      intro wS hSw
      subst hSw
      exact fZ
     refine tkJ 16 (v := ?vq4_16) ?hq4_16 zq ?rq4_16
     case hq4_16 =>
      intro wS hSw
      subst hSw
      exact fZ
     refine tkJ 17 (v := ?vq4_17) ?hq4_17 zq ?rq4_17
     case hq4_17 =>
      intro wS hSw
      subst hSw
      exact fZ
     refine tkJ 18 (v := ?vq4_18) ?hq4_18 zq ?rq4_18
     case hq4_18 =>
      intro wS hSw
      subst hSw
      exact fZ
     refine tkJ 19 (v := ?vq4_19) ?hq4_19 zq ?rq4_19
     case hq4_19 =>
      intro wS hSw
      subst hSw
      exact fZ
     refine tkJ 20 (v := ?vq4_20) ?hq4_20 zq ?rq4_20
     case hq4_20 =>
      intro wS hSw
      subst hSw
      exact fZ
     refine tkJ 21 (v := ?vq4_21) ?hq4_21 zq ?rq4_21
     case hq4_21 =>
      intro wS hSw
      subst hSw
      exact fZ
     refine tkJ 22 (v := ?vq4_22) ?hq4_22 zq ?rq4_22
     case hq4_22 =>
      intro wS hSw
      subst hSw
      exact fZ
     refine rdH 23 (fun K hK => ?_)
     go_simp
     go_at_call 169
     refine (uh LA).mono ?_
     rintro e u1 ⟨rfl, h1⟩
     subst u1
     try go_wp2_with fail
     refine hK.out _ _ rfl (fun zq => ?_)
     clear hK K
     try simp only [Act.put, pz, py, px]
     refine tkJ 24 (v := ?vq4_24) ?hq4_24 zq ?rq4_24
     case hq4_24 =>
      intro wS hSw
      subst hSw
      exact fZ
     refine tkJ 25 (v := ?vq4_25) ?hq4_25 zq ?rq4_25
     case hq4_25 =>
      intro wS hSw
      subst hSw
      exact fZ
     refine tkJ 26 (v := ?vq4_26) ?hq4_26 zq ?rq4_26
     case hq4_26 =>
      intro wS hSw
      subst hSw
      exact fZ
     refine tkJ 27 (v := ?vq4_27) ?hq4_27 zq ?rq4_27
     case hq4_27 =>
      intro wS hSw
      subst hSw
      exact fZ
     refine tkJ 28 (v := ?vq4_28) ?hq4_28 zq ?rq4_28
     case hq4_28 =>
      intro wS hSw
      subst hSw
      exact fZ
     refine tkJ 29 (v := ?vq4_29) ?hq4_29 zq ?rq4_29
     case hq4_29 =>
      intro wS hSw
      subst hSw
      exact fZ
     refine tkJ 30 (v := ?vq4_30) ?hq4_30 zq ?rq4_30
     case hq4_30 =>
      intro wS hSw
      subst hSw
      exact fZ
     refine tkJ 31 (v := ?vq4_31) ?hq4_31 zq ?rq4_31
     case hq4_31 =>
      intro wS hSw
      subst hSw
      exact fZ
     refine tkJ 32 (v := ?vq4_32) ?hq4_32 zq ?rq4_32
     case hq4_32 =>
      intro wS hSw
      subst hSw
      exact fZ
     refine tkJ 33 (v := ?vq4_33) ?hq4_33 zq ?rq4_33
     case hq4_33 =>
      intro wS hSw
      subst hSw
      exact fZ
     refine tkJ 34 (v := ?vq4_34) ?hq4_34 zq ?rq4_34
     case hq4_34 =>
      intro wS hSw
      subst hSw
      exact fZ
     refine tkJ 35 (v := ?vq4_35) ?hq4_35 zq ?rq4_35
     case hq4_35 =>
      intro wS hSw
      subst hSw
      exact fZ
     refine tkJ 36 (v := ?vq4_36) ?hq4_36 zq ?rq4_36
     case hq4_36 =>
      intro wS hSw
      subst hSw
      exact fZ
     refine tkJ 37 (v := ?vq4_37) ?hq4_37 zq ?rq4_37
     case hq4_37 =>
      intro wS hSw
      subst hSw
      exact fZ
     refine tkJ 38 (v := ?vq4_38) ?hq4_38 zq ?rq4_38
     case hq4_38 =>
      intro wS hSw
      subst hSw
      exact fZ
     refine dZ ?_
     clear zq
     go_wp2_with fail
     go_ret
     exact ⟨by rw [uh HE]; rfl, uh HB⟩
    have HE := yh (uh HV _ ((uh HF).trans (if_pos (by rw [e3]; simp))) (by decide))
    go_wp2_with fail
    refine wZz (fun w' => w' = w5.drew) rfl (fun zq => ?_)
    generalize w5.drew = wD at zq z0 z1 z2 y2 HB LA ⊢
    refine tkJ 0 (v := ?vq5_0) ?hq5_0 zq ?rq5_0
    case hq5_0 =>
     intro wS hSw
     subst hSw
     exact fZ
    refine tkJ 1 (v := ?vq5_1) ?hq5_1 zq ?rq5_1
    case hq5_1 =>
     intro wS hSw
     subst hSw
     exact fZ
    refine tkJ 2 (v := ?vq5_2) ?hq5_2 zq ?rq5_2
    case hq5_2 =>
     intro wS hSw
     subst hSw
     exact fZ
    refine tkJ 3 (v := ?vq5_3) ?hq5_3 zq ?rq5_3
    case hq5_3 =>
     intro wS hSw
     subst hSw
     exact fZ
    refine tkJ 4 (v := ?vq5_4) ?hq5_4 zq ?rq5_4
    case hq5_4 =>
     intro wS hSw
     subst hSw
     exact fZ
    refine tkJ 5 (v := ?vq5_5) ?hq5_5 zq ?rq5_5
    case hq5_5 =>
     intro wS hSw
     subst hSw
     exact fZ
    refine tkJ 6 (v := ?vq5_6) ?hq5_6 zq ?rq5_6
    case hq5_6 =>
     intro wS hSw
     subst hSw
     exact fZ
    refine tkJ 7 (v := ?vq5_7) ?hq5_7 zq ?rq5_7
    case hq5_7 =>
     intro wS hSw
     subst hSw
     exact fZ
    refine tkJ 8 (v := ?vq5_8) ?hq5_8 zq ?rq5_8
    case hq5_8 =>
     intro wS hSw
     subst hSw
     exact fZ
    refine tkJ 9 (v := ?vq5_9) ?hq5_9 zq ?rq5_9
    case hq5_9 =>
     intro wS hSw
     subst hSw
     exact fZ
    refine tkJ 10 (v := ?vq5_10) ?hq5_10 zq ?rq5_10
    case hq5_10 =>
     intro wS hSw
     subst hSw
     exact fZ
    refine skH 11 zq ?_
    refine skH 12 zq ?_
    refine skH 13 zq ?_
    refine skH 14 zq ?_
    refine skH 15 zq ?_
    refine skH 16 zq ?_
    refine skH 17 zq ?_
    refine skH 18 zq ?_
    refine skH 19 zq ?_
    refine skH 20 zq ?_
    refine skH 21 zq ?_
    refine skH 22 zq ?_
    refine skH 23 zq ?_
    refine skH 24 zq ?_
    refine skH 25 zq ?_
    refine skH 26 zq ?_
    refine skH 27 zq ?_
    refine skH 28 zq ?_
    refine skH 29 zq ?_
    refine skH 30 zq ?_
    refine skH 31 zq ?_
    refine skH 32 zq ?_
    refine skH 33 zq ?_
    refine skH 34 zq ?_
    refine skH 35 zq ?_
    refine skH 36 zq ?_
    refine skH 37 zq ?_
    refine tkJ 38 (v := ?vq5_38) ?hq5_38 zq ?rq5_38
    case hq5_38 =>
     intro wS hSw
     subst hSw
     exact fZ
    refine dZ ?_
    clear zq
    go_wp2_with fail
    go_ret
    exact ⟨by rw [uh HE]; rfl, uh HB⟩
   have HE := yh (uh HV _ ((uh HF).trans (if_pos e2)) (by decide))
   go_wp2_with fail
   go_ret
   exact ⟨by rw [uh HE]; rfl, uh HB0⟩
  obtain rfl : k = x.nodes.length := by omega
  rw [List.drop_length] at hF
  have hdl : decide ((x.nodes.length : Int) < (x.nodes.length : Int)) = false := by simp
  have HZ := yh (uh HV0 hF)
  have HB1 := yh hB
  clear hF hB HV HV0
  go_wp2_with fail
  clear hdl v2 v3
  go_loopw [6] (fun i wq => ∃ k : Nat, k ≤ x.chain.ids.length ∧ i = .int .i64 k ∧ r = (if (x.chain.ids.drop k).all (bm x) = true then 0 else 4) ∧ Below wr.heap.size wr wq) (fun i _ => x.chain.ids.length - (intOf i).toNat)
  case atStart => exact ⟨0, Nat.zero_le _, rfl, uh HZ, Below.refl _ _⟩
  case round =>
   obtain ⟨k, hk, rfl, hF, hB⟩ := hrel
   clear HZ
   have hX2 := (uh HX1).ar hB
   have y3 := aj.at hX2 3 _ rfl
   simp only [ga, gb, gc] at y3
   have xl2 := hX2.lt
   have HB := yh ((uh HB1).trans (hB.mono (uh HB1).size))
   by_cases hlt : k < x.chain.ids.length
   ·
    obtain ⟨b, off, rfl, hbl⟩ := ad.aF (uh HI) (by omega)
    have c1 := ((uh HB).cell (p := ⟨b, off + k, none⟩) hbl).trans (cm (uh HI) hlt)
    have hdl : decide ((k : Int) < (x.chain.ids.length : Int)) = true := by simp; omega
    rw [List.drop_eq_getElem_cons hlt, List.all_cons] at hF
    have HL := yh (j4 _ _ _ _ _ _ _ _ x x.chain.ids[k] xb wr hX2)
    have HF := yh hF
    have HBQ := yh hB
    clear hF hX2 hB
    generalize x.chain.ids[k] = z at *
    go_wp2_with fail
    refine (uh HL).mono ?_
    rintro e w5 ⟨rfl, h5⟩
    subst w5
    clear HL
    generalize bm x z = q at *
    cases q
    ·
     replace HF := yh ((uh HF).trans (if_neg (by simp)))
     go_wp2_with fail
     go_ret
     exact ⟨by rw [uh HF]; rfl, uh HB⟩
    rw [Bool.true_and] at HF
    go_wp2_with fail
    go_roundw
    case rel => exact ⟨k + 1, by omega, by go_num, uh HF, uh HBQ⟩
    case measure => simp [intOf]; omega
   obtain rfl : k = x.chain.ids.length := by omega
   rw [List.drop_length, List.all_nil, if_pos rfl] at hF
   have hdl : decide ((x.chain.ids.length : Int) < (x.chain.ids.length : Int)) = false := by simp
   have HF := yh hF
   clear hF hB hX2
   go_wp2_with fail
   go_ret
   exact ⟨by rw [uh HF]; rfl, uh HB⟩
end Go.Proofs.YtecagllmonckgaaGreat
