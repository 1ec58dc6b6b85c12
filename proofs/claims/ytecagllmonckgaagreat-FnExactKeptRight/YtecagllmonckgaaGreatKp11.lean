/-
  Texts of this proof in one: SpecMsgF, SpecNetF, SpecWF, SpecComm, SpecSeen, NodeKitP, SpecPlace, SpecKept, ImplTail.
  Their conditions stand in their theorems.
-/
import Derived.Test.YtecagllmonckgaaGreatChecked
import Derived.Test.YtecagllmonckgaaGreatKp05
import Derived.Test.YtecagllmonckgaaGreatKp10
import Derived.Test.YtecagllmonckgaaGreatKp01
import Derived.Deep.RegionHeld3
import Derived.Deep.CutRange
import Derived.Test.YtecagllmonckgaaGreatKp00
import Derived.Test.YtecagllmonckgaaGreatKp09
import Derived.Deep.QuietTactic
import Derived.BigQuiet
import Derived.Test.YtecagllmonckgaaGreatKp08
import Derived.Test.YtecagllmonckgaaGreatKp07
set_option maxRecDepth 100000
set_option maxHeartbeats 4000000
namespace Go.Proofs.YtecagllmonckgaaGreat
open Go.RowKit
def lz (w : World) (b o : Nat) (x : br) (v : Value) : Prop :=
 w.cell? ⟨b, o, none⟩ = some (.int .i64 x.kind) ∧ w.cell? ⟨b, o + 1, none⟩ = some (.int .i64 x.ab) ∧ w.cell? ⟨b, o + 2, none⟩ = some (.int .i64 x.src) ∧ w.cell? ⟨b, o + 3, none⟩ = some (.int .i64 x.dst) ∧ w.cell? ⟨b, o + 4, none⟩ = some (.int .i64 x.index) ∧ w.cell? ⟨b, o + 5, none⟩ = some (.int .i64 x.write.kind) ∧ w.cell? ⟨b, o + 5 + 1, none⟩ = some (.int .i64 x.write.id) ∧ w.cell? ⟨b, o + 5 + 2, none⟩ = some (v) ∧ w.cell? ⟨b, o + 5 + 3, none⟩ = some (.int .i64 x.write.aa) ∧ w.cell? ⟨b, o + 5 + 4, none⟩ = some (.int .i64 x.write.seq)
theorem lN {y : ai} (h : (y.kind == 0) = false) : decide (iM y) = false := by
 rw [decide_eq_false_iff_not]; intro q; rw [q.1] at h; simp at h
theorem lO {y : ai} (h : (y.id == 0) = false) : decide (iM y) = false := by
 rw [decide_eq_false_iff_not]; intro q; rw [q.2.1] at h; simp at h
theorem lU {y : ai} (h : (y.aa == 0) = false) : decide (iM y) = false := by
 rw [decide_eq_false_iff_not]; intro q; rw [q.2.2.1] at h; simp at h
theorem lE {y : ai} (h : (y.seq == 0) = false) : decide (iM y) = false := by
 rw [decide_eq_false_iff_not]; intro q; rw [q.2.2.2.1] at h; simp at h
theorem lT {y : ai} (h : ((y.vec.length : Int) == 0) = false) : decide (iM y) = false := by
 rw [decide_eq_false_iff_not]; intro q; rw [q.2.2.2.2] at h; simp at h
theorem ma {y : ai} (h0 : (y.kind == 0) = true) (h1 : (y.id == 0) = true) (h2 : (y.aa == 0) = true) (h3 : (y.seq == 0) = true) (h4 : ((y.vec.length : Int) == 0) = true) : decide (iM y) = true := by
 rw [decide_eq_true_iff]
 simp only [beq_iff_eq] at h0 h1 h2 h3 h4
 exact ⟨h0, h1, h2, h3, by omega⟩
theorem k8 {x : br} (h : (decide (1 ≤ x.kind) && decide (x.kind ≤ 2)) = false) : au x = 1 := by
 rw [au, if_pos (Or.inl (by simpa using h))]
theorem ky {x : br} (h : (x.src == x.dst) = true) : au x = 1 := by
 rw [au, if_pos (Or.inr (Or.inl (beq_iff_eq.1 h)))]
theorem lD {x : br} (h : (x.kind == 2) = true) (h2 : decide (iM x.write) = false) : au x = 1 := by
 rw [au, if_pos (Or.inr (Or.inr ⟨beq_iff_eq.1 h, decide_eq_false_iff_not.1 h2⟩))]
def bP (x : br) : Int := if ¬ (1 ≤ x.ab ∧ x.ab ≤ 999) ∨ ¬ (1 ≤ x.src ∧ x.src ≤ 5) ∨ ¬ (1 ≤ x.dst ∧ x.dst ≤ 5) ∨ ¬ (0 ≤ x.index ∧ x.index ≤ 40) ∨ (x.kind ≠ 2 ∧ x.index = 0) then 3
 else if x.kind = 2 then 0 else wF x.write
theorem kc {x : br} (h : (decide (1 ≤ x.kind) && decide (x.kind ≤ 2)) = true) (h1 : (x.src == x.dst) = false) (h2 : (x.kind == 2) = false) : au x = bP x := by
 rw [au, if_neg, bP]
 simp at h h1 h2
 rintro (q | q | q)
 ·
  exact q h
 ·
  exact h1 q
 exact h2 q.1
theorem jT {x : br} (h : (decide (1 ≤ x.kind) && decide (x.kind ≤ 2)) = true) (h1 : (x.src == x.dst) = false) (h2 : decide (iM x.write) = true) : au x = bP x := by
 rw [au, if_neg, bP]
 simp at h h1 h2
 rintro (q | q | q)
 ·
  exact q h
 ·
  exact h1 q
 exact q.2 h2
theorem gJ {x : br} (h : (decide (1 ≤ x.ab) && decide (x.ab ≤ 999)) = false) : bP x = 3 := by
 rw [bP, if_pos (Or.inl (by simpa using h))]
theorem kp {x : br} (h : (decide (1 ≤ x.src) && decide (x.src ≤ 5)) = false) : bP x = 3 := by
 rw [bP, if_pos (Or.inr (Or.inl (by simpa using h)))]
theorem jW {x : br} (h : (decide (1 ≤ x.dst) && decide (x.dst ≤ 5)) = false) : bP x = 3 := by
 rw [bP, if_pos (Or.inr (Or.inr (Or.inl (by simpa using h))))]
theorem gS {x : br} (h : (decide (0 ≤ x.index) && decide (x.index ≤ 40)) = false) : bP x = 3 := by
 rw [bP, if_pos (Or.inr (Or.inr (Or.inr (Or.inl (by simpa using h)))))]
theorem kZ {x : br} (h : (x.kind == 2) = false) (h2 : (x.index == 0) = true) : bP x = 3 := by
 rw [bP, if_pos (Or.inr (Or.inr (Or.inr (Or.inr ⟨by simpa using h, by simpa using h2⟩))))]
theorem lq {x : br} (h0 : (decide (1 ≤ x.ab) && decide (x.ab ≤ 999)) = true) (h1 : (decide (1 ≤ x.src) && decide (x.src ≤ 5)) = true) (h2 : (decide (1 ≤ x.dst) && decide (x.dst ≤ 5)) = true) (h3 : (decide (0 ≤ x.index) && decide (x.index ≤ 40)) = true) (h4 : (x.kind == 2) = true ∨ (x.index == 0) = false) : bP x = if x.kind = 2 then 0 else wF x.write := by
 rw [bP, if_neg]
 simp at h0 h1 h2 h3 h4
 rintro (q | q | q | q | q)
 ·
  exact q h0
 ·
  exact q h1
 ·
  exact q h2
 ·
  exact q h3
 rcases h4 with h4 | h4
 ·
  exact q.1 h4
 exact h4 q.2
theorem jg {w : World} {y : ai} {a : Option Addr} {d : Nat} (h : ad.ag.Reads w [.int .i64 y.kind, .int .i64 y.id, .slice a y.vec.length d, .int .i64 y.aa, .int .i64 y.seq] y) : (ad.sl ad.int).Reads w [.slice a y.vec.length d] y.vec := by
 obtain ⟨a2, d2, e, R⟩ := aQ h
 simp only [List.cons.injEq, Value.slice.injEq, and_true, true_and] at e
 obtain ⟨rfl, rfl⟩ := e
 exact R
theorem kM (b o : Nat) (a : Option Addr) (d : Nat) (x : br) (w : World) (hM : lz w b o x (.slice a x.write.vec.length d)) (R : (ad.sl ad.int).Reads w [.slice a x.write.vec.length d] x.write.vec) :
  Calls Tryz.prog 210 #[.pointer (some ⟨b, o, none⟩)] w fun e w' => e = .returned (.int .i64 (au x)) ∧ Below w.heap.size w w' := by
 have hbig := R.da
 have H := yh R
 have HM := yh hM
 obtain ⟨c0, c1, c2, c3, c4, c5, c6, c7, c8, c9⟩ := hM
 have hb := World.block_lt_of_cell? _ _ c0
 clear R
 go_enter Tryz.func210, Tryz.ntmps210
 go_upto_region 2 with fail
 go_cut [4] from 10 to 48 (fun s4 wx => s4 = .bool (decide (iM x.write)) ∧ wx = w)
 case first =>
  cases e0 : (x.write.kind == 0)
  ·
   have HF := yh (lN e0)
   go_wp2_with fail
   go_meet
   exact ⟨by rw [uh HF], rfl⟩
  cases e1 : (x.write.id == 0)
  ·
   have HF := yh (lO e1)
   go_wp2_with fail
   go_meet
   exact ⟨by rw [uh HF], rfl⟩
  cases e2 : (x.write.aa == 0)
  ·
   have HF := yh (lU e2)
   go_wp2_with fail
   go_meet
   exact ⟨by rw [uh HF], rfl⟩
  cases e3 : (x.write.seq == 0)
  ·
   have HF := yh (lE e3)
   go_wp2_with fail
   go_meet
   exact ⟨by rw [uh HF], rfl⟩
  cases e4 : ((x.write.vec.length : Int) == 0)
  ·
   have HF := yh (lT e4)
   go_wp2_with fail
   go_meet
   exact ⟨by rw [uh HF], rfl⟩
  have HF := yh (ma e0 e1 e2 e3 e4)
  go_wp2_with fail
  go_meet
  exact ⟨by rw [uh HF], rfl⟩
 case rest =>
  obtain ⟨rfl, hwc⟩ := hcut
  subst hwc
  cases d1 : (decide (1 ≤ x.kind) && decide (x.kind ≤ 2))
  ·
   have HF := yh (k8 d1)
   go_upto_region 3 with fail
   refine wZz (fun w' => Below wc.heap.size wc w') (Below.refl _ _).drew (fun zq => ?_)
   generalize wc.drew = wD at zq ⊢
   refine tkH 0 zq ?_
   refine tkH 1 zq ?_
   refine tkH 2 zq ?_
   refine tkJ 3 (v := ?va3_4) ?ha3_4 zq ?ra3_4
   case ha3_4 =>
    intro wS hSw
    have q0 := cZ hSw hb c0
    clear hSw
    exact fZ
   refine rdH 4 (fun K hK => ?_)
   go_simp
   go_at_call 102
   refine (cM x.kind 1 2 _).mono ?_
   rintro e w1 ⟨rfl, h1⟩
   subst w1
   rw [d1]
   try go_wp2_with fail
   refine hK.out _ _ zq (fun zq => ?_)
   clear hK K
   try simp only [Act.put, pz, py, px]
   refine tkH 5 zq ?_
   refine tkH 6 zq ?_
   refine skH 7 zq ?_
   refine skH 8 zq ?_
   refine skH 9 zq ?_
   refine skH 10 zq ?_
   refine skH 11 zq ?_
   refine skH 12 zq ?_
   refine skH 13 zq ?_
   refine skH 14 zq ?_
   refine skH 15 zq ?_
   refine tkH 16 zq ?_
   refine tkH 17 zq ?_
   refine skH 18 zq ?_
   refine skH 19 zq ?_
   refine skH 20 zq ?_
   refine skH 21 zq ?_
   refine skH 22 zq ?_
   refine tkH 23 zq ?_
   refine dZ ?_
   have HB9 := yh zq
   clear zq
   go_wp2_with fail
   go_ret
   exact ⟨by rw [uh HF]; rfl, uh HB9⟩
  cases e1 : (x.src == x.dst)
  ·
   cases e2 : (x.kind == 2)
   ·
    have HRS := yh (kc d1 e1 e2)
    go_upto_region 3 with fail
    refine wZz (fun w' => Below wc.heap.size wc w') (Below.refl _ _).drew (fun zq => ?_)
    generalize wc.drew = wD at zq ⊢
    refine tkH 0 zq ?_
    refine tkH 1 zq ?_
    refine tkH 2 zq ?_
    refine tkJ 3 (v := ?vc3_4) ?hc3_4 zq ?rc3_4
    case hc3_4 =>
     intro wS hSw
     have q0 := cZ hSw hb c0
     clear hSw
     exact fZ
    refine rdH 4 (fun K hK => ?_)
    go_simp
    go_at_call 102
    refine (cM x.kind 1 2 _).mono ?_
    rintro e w1 ⟨rfl, h1⟩
    subst w1
    rw [d1]
    try go_wp2_with fail
    refine hK.out _ _ zq (fun zq => ?_)
    clear hK K
    try simp only [Act.put, pz, py, px]
    refine tkH 5 zq ?_
    refine tkH 6 zq ?_
    refine tkH 7 zq ?_
    refine tkH 8 zq ?_
    refine tkH 9 zq ?_
    refine tkJ 10 (v := ?vc10_10) ?hc10_10 zq ?rc10_10
    case hc10_10 =>
     intro wS hSw
     have q2 := cZ hSw hb c2
     clear hSw
     exact fZ
    refine tkH 11 zq ?_
    refine tkH 12 zq ?_
    refine tkH 13 zq ?_
    refine tkJ 14 (v := ?vc14_14) ?hc14_14 zq ?rc14_14
    case hc14_14 =>
     intro wS hSw
     have q3 := cZ hSw hb c3
     clear hSw
     exact fZ
    refine tkH 15 zq ?_
    refine tkH 16 zq ?_
    refine tkH 17 zq ?_
    refine tkH 18 zq ?_
    refine tkH 19 zq ?_
    refine skH 20 zq ?_
    refine skH 21 zq ?_
    refine tkH 22 zq ?_
    refine tkH 23 zq ?_
    refine dZ ?_
    have HB9 := zq
    clear zq
    have c0 : wD.cell? ⟨b, o, none⟩ = some (.int .i64 x.kind) := (HB9.cell (p := ⟨b, o, none⟩) hb).trans c0
    have c1 : wD.cell? ⟨b, o + 1, none⟩ = some (.int .i64 x.ab) := (HB9.cell (p := ⟨b, o + 1, none⟩) hb).trans c1
    have c2 : wD.cell? ⟨b, o + 2, none⟩ = some (.int .i64 x.src) := (HB9.cell (p := ⟨b, o + 2, none⟩) hb).trans c2
    have c3 : wD.cell? ⟨b, o + 3, none⟩ = some (.int .i64 x.dst) := (HB9.cell (p := ⟨b, o + 3, none⟩) hb).trans c3
    have c4 : wD.cell? ⟨b, o + 4, none⟩ = some (.int .i64 x.index) := (HB9.cell (p := ⟨b, o + 4, none⟩) hb).trans c4
    have c5 : wD.cell? ⟨b, o + 5, none⟩ = some (.int .i64 x.write.kind) := (HB9.cell (p := ⟨b, o + 5, none⟩) hb).trans c5
    have c6 : wD.cell? ⟨b, o + 5 + 1, none⟩ = some (.int .i64 x.write.id) := (HB9.cell (p := ⟨b, o + 5 + 1, none⟩) hb).trans c6
    have c7 : wD.cell? ⟨b, o + 5 + 2, none⟩ = some (.slice a x.write.vec.length d) := (HB9.cell (p := ⟨b, o + 5 + 2, none⟩) hb).trans c7
    have c8 : wD.cell? ⟨b, o + 5 + 3, none⟩ = some (.int .i64 x.write.aa) := (HB9.cell (p := ⟨b, o + 5 + 3, none⟩) hb).trans c8
    have c9 : wD.cell? ⟨b, o + 5 + 4, none⟩ = some (.int .i64 x.write.seq) := (HB9.cell (p := ⟨b, o + 5 + 4, none⟩) hb).trans c9
    have HWD := yh ((uh H).af HB9)
    replace hb : b < wD.heap.size := Nat.lt_of_lt_of_le hb HB9.size
    replace HB9 := yh HB9
    go_wp2_with fail
    refine (cM x.ab 1 999 wD).mono ?_
    rintro e w1 ⟨rfl, h1⟩
    subst w1
    cases d10 : (decide (1 ≤ x.ab) && decide (x.ab ≤ 999))
    ·
     have HF := yh ((uh HRS).trans (gJ d10))
     clear d10
     go_wp2_with fail
     go_ret
     exact ⟨by rw [uh HF]; rfl, uh HB9⟩
    skip
    go_wp2_with fail
    refine (dU x.src wD).mono ?_
    rintro e w1 ⟨rfl, h1⟩
    subst w1
    cases d12 : (decide (1 ≤ x.src) && decide (x.src ≤ 5))
    ·
     have HF := yh ((uh HRS).trans (kp d12))
     clear d12
     go_wp2_with fail
     go_ret
     exact ⟨by rw [uh HF]; rfl, uh HB9⟩
    skip
    go_wp2_with fail
    refine (dU x.dst wD).mono ?_
    rintro e w1 ⟨rfl, h1⟩
    subst w1
    cases d14 : (decide (1 ≤ x.dst) && decide (x.dst ≤ 5))
    ·
     have HF := yh ((uh HRS).trans (jW d14))
     clear d14
     go_wp2_with fail
     go_ret
     exact ⟨by rw [uh HF]; rfl, uh HB9⟩
    skip
    go_wp2_with fail
    refine (cM x.index 0 40 wD).mono ?_
    rintro e w1 ⟨rfl, h1⟩
    subst w1
    cases d16 : (decide (0 ≤ x.index) && decide (x.index ≤ 40))
    ·
     have HF := yh ((uh HRS).trans (gS d16))
     clear d16
     go_wp2_with fail
     go_ret
     exact ⟨by rw [uh HF]; rfl, uh HB9⟩
    skip
    cases e5 : (x.index == 0)
    ·
     have HF : Hid (au x = wF x.write) := (uh HRS).trans ((lq d10 d12 d14 d16 (Or.inr e5)).trans (if_neg (by simpa using e2)))
     clear d10 d12 d14 d16
     go_wp2_with fail
     refine (gP b (o + 5) x.write.kind x.write.id _ x.write.aa x.write.seq x.write.vec wD ⟨c5, c6, c7, c8, c9⟩ (ad.bq (uh HWD))).mono ?_
     rintro e w1 ⟨rfl, h1⟩
     subst w1
     go_wp2_with fail
     go_ret
     exact ⟨by rw [uh HF]; rfl, uh HB9⟩
    have HF : Hid (au x = 3) := (uh HRS).trans (kZ e2 e5)
    clear d10 d12 d14 d16
    go_wp2_with fail
    go_ret
    exact ⟨by rw [uh HF]; rfl, uh HB9⟩
   cases e3 : decide (iM x.write)
   ·
    have HF := yh (lD e2 e3)
    go_upto_region 3 with fail
    refine wZz (fun w' => Below wc.heap.size wc w') (Below.refl _ _).drew (fun zq => ?_)
    generalize wc.drew = wD at zq ⊢
    refine tkH 0 zq ?_
    refine tkH 1 zq ?_
    refine tkH 2 zq ?_
    refine tkJ 3 (v := ?vd3_4) ?hd3_4 zq ?rd3_4
    case hd3_4 =>
     intro wS hSw
     have q0 := cZ hSw hb c0
     clear hSw
     exact fZ
    refine rdH 4 (fun K hK => ?_)
    go_simp
    go_at_call 102
    refine (cM x.kind 1 2 _).mono ?_
    rintro e w1 ⟨rfl, h1⟩
    subst w1
    rw [d1]
    try go_wp2_with fail
    refine hK.out _ _ zq (fun zq => ?_)
    clear hK K
    try simp only [Act.put, pz, py, px]
    refine tkH 5 zq ?_
    refine tkH 6 zq ?_
    refine tkH 7 zq ?_
    refine tkH 8 zq ?_
    refine tkH 9 zq ?_
    refine tkJ 10 (v := ?vd10_10) ?hd10_10 zq ?rd10_10
    case hd10_10 =>
     intro wS hSw
     have q2 := cZ hSw hb c2
     clear hSw
     exact fZ
    refine tkH 11 zq ?_
    refine tkH 12 zq ?_
    refine tkH 13 zq ?_
    refine tkJ 14 (v := ?vd14_14) ?hd14_14 zq ?rd14_14
    case hd14_14 =>
     intro wS hSw
     have q3 := cZ hSw hb c3
     clear hSw
     exact fZ
    refine tkH 15 zq ?_
    refine tkH 16 zq ?_
    refine tkH 17 zq ?_
    refine tkH 18 zq ?_
    refine tkH 19 zq ?_
    refine tkH 20 zq ?_
    refine tkH 21 zq ?_
    refine tkH 22 zq ?_
    refine tkH 23 zq ?_
    refine dZ ?_
    have HB9 := yh zq
    clear zq
    go_wp2_with fail
    go_ret
    exact ⟨by rw [uh HF]; rfl, uh HB9⟩
   have HRS := yh (jT d1 e1 e3)
   go_upto_region 3 with fail
   refine wZz (fun w' => Below wc.heap.size wc w') (Below.refl _ _).drew (fun zq => ?_)
   generalize wc.drew = wD at zq ⊢
   refine tkH 0 zq ?_
   refine tkH 1 zq ?_
   refine tkH 2 zq ?_
   refine tkJ 3 (v := ?ve3_4) ?he3_4 zq ?re3_4
   case he3_4 =>
    intro wS hSw
    have q0 := cZ hSw hb c0
    clear hSw
    exact fZ
   refine rdH 4 (fun K hK => ?_)
   go_simp
   go_at_call 102
   refine (cM x.kind 1 2 _).mono ?_
   rintro e w1 ⟨rfl, h1⟩
   subst w1
   rw [d1]
   try go_wp2_with fail
   refine hK.out _ _ zq (fun zq => ?_)
   clear hK K
   try simp only [Act.put, pz, py, px]
   refine tkH 5 zq ?_
   refine tkH 6 zq ?_
   refine tkH 7 zq ?_
   refine tkH 8 zq ?_
   refine tkH 9 zq ?_
   refine tkJ 10 (v := ?ve10_10) ?he10_10 zq ?re10_10
   case he10_10 =>
    intro wS hSw
    have q2 := cZ hSw hb c2
    clear hSw
    exact fZ
   refine tkH 11 zq ?_
   refine tkH 12 zq ?_
   refine tkH 13 zq ?_
   refine tkJ 14 (v := ?ve14_14) ?he14_14 zq ?re14_14
   case he14_14 =>
    intro wS hSw
    have q3 := cZ hSw hb c3
    clear hSw
    exact fZ
   refine tkH 15 zq ?_
   refine tkH 16 zq ?_
   refine tkH 17 zq ?_
   refine tkH 18 zq ?_
   refine tkH 19 zq ?_
   refine tkH 20 zq ?_
   refine tkH 21 zq ?_
   refine tkH 22 zq ?_
   refine tkH 23 zq ?_
   refine dZ ?_
   have HB9 := zq
   clear zq
   have c0 : wD.cell? ⟨b, o, none⟩ = some (.int .i64 x.kind) := (HB9.cell (p := ⟨b, o, none⟩) hb).trans c0
   have c1 : wD.cell? ⟨b, o + 1, none⟩ = some (.int .i64 x.ab) := (HB9.cell (p := ⟨b, o + 1, none⟩) hb).trans c1
   have c2 : wD.cell? ⟨b, o + 2, none⟩ = some (.int .i64 x.src) := (HB9.cell (p := ⟨b, o + 2, none⟩) hb).trans c2
   have c3 : wD.cell? ⟨b, o + 3, none⟩ = some (.int .i64 x.dst) := (HB9.cell (p := ⟨b, o + 3, none⟩) hb).trans c3
   have c4 : wD.cell? ⟨b, o + 4, none⟩ = some (.int .i64 x.index) := (HB9.cell (p := ⟨b, o + 4, none⟩) hb).trans c4
   have c5 : wD.cell? ⟨b, o + 5, none⟩ = some (.int .i64 x.write.kind) := (HB9.cell (p := ⟨b, o + 5, none⟩) hb).trans c5
   have c6 : wD.cell? ⟨b, o + 5 + 1, none⟩ = some (.int .i64 x.write.id) := (HB9.cell (p := ⟨b, o + 5 + 1, none⟩) hb).trans c6
   have c7 : wD.cell? ⟨b, o + 5 + 2, none⟩ = some (.slice a x.write.vec.length d) := (HB9.cell (p := ⟨b, o + 5 + 2, none⟩) hb).trans c7
   have c8 : wD.cell? ⟨b, o + 5 + 3, none⟩ = some (.int .i64 x.write.aa) := (HB9.cell (p := ⟨b, o + 5 + 3, none⟩) hb).trans c8
   have c9 : wD.cell? ⟨b, o + 5 + 4, none⟩ = some (.int .i64 x.write.seq) := (HB9.cell (p := ⟨b, o + 5 + 4, none⟩) hb).trans c9
   have HWD := yh ((uh H).af HB9)
   replace hb : b < wD.heap.size := Nat.lt_of_lt_of_le hb HB9.size
   replace HB9 := yh HB9
   go_wp2_with fail
   refine (cM x.ab 1 999 wD).mono ?_
   rintro e w1 ⟨rfl, h1⟩
   subst w1
   cases d12 : (decide (1 ≤ x.ab) && decide (x.ab ≤ 999))
   ·
    have HF := yh ((uh HRS).trans (gJ d12))
    clear d12
    go_wp2_with fail
    go_ret
    exact ⟨by rw [uh HF]; rfl, uh HB9⟩
   skip
   go_wp2_with fail
   refine (dU x.src wD).mono ?_
   rintro e w1 ⟨rfl, h1⟩
   subst w1
   cases d14 : (decide (1 ≤ x.src) && decide (x.src ≤ 5))
   ·
    have HF := yh ((uh HRS).trans (kp d14))
    clear d14
    go_wp2_with fail
    go_ret
    exact ⟨by rw [uh HF]; rfl, uh HB9⟩
   skip
   go_wp2_with fail
   refine (dU x.dst wD).mono ?_
   rintro e w1 ⟨rfl, h1⟩
   subst w1
   cases d16 : (decide (1 ≤ x.dst) && decide (x.dst ≤ 5))
   ·
    have HF := yh ((uh HRS).trans (jW d16))
    clear d16
    go_wp2_with fail
    go_ret
    exact ⟨by rw [uh HF]; rfl, uh HB9⟩
   skip
   go_wp2_with fail
   refine (cM x.index 0 40 wD).mono ?_
   rintro e w1 ⟨rfl, h1⟩
   subst w1
   cases d18 : (decide (0 ≤ x.index) && decide (x.index ≤ 40))
   ·
    have HF := yh ((uh HRS).trans (gS d18))
    clear d18
    go_wp2_with fail
    go_ret
    exact ⟨by rw [uh HF]; rfl, uh HB9⟩
   skip
   have HF : Hid (au x = 0) := (uh HRS).trans ((lq d12 d14 d16 d18 (Or.inl e2)).trans (if_pos (beq_iff_eq.1 e2)))
   clear d12 d14 d16 d18
   go_wp2_with fail
   go_ret
   exact ⟨by rw [uh HF]; rfl, uh HB9⟩
  have HF := yh (ky e1)
  go_upto_region 3 with fail
  refine wZz (fun w' => Below wc.heap.size wc w') (Below.refl _ _).drew (fun zq => ?_)
  generalize wc.drew = wD at zq ⊢
  refine tkH 0 zq ?_
  refine tkH 1 zq ?_
  refine tkH 2 zq ?_
  refine tkJ 3 (v := ?vb3_4) ?hb3_4 zq ?rb3_4
  case hb3_4 =>
   intro wS hSw
   have q0 := cZ hSw hb c0
   clear hSw
   exact fZ
  refine rdH 4 (fun K hK => ?_)
  go_simp
  go_at_call 102
  refine (cM x.kind 1 2 _).mono ?_
  rintro e w1 ⟨rfl, h1⟩
  subst w1
  rw [d1]
  try go_wp2_with fail
  refine hK.out _ _ zq (fun zq => ?_)
  clear hK K
  try simp only [Act.put, pz, py, px]
  refine tkH 5 zq ?_
  refine tkH 6 zq ?_
  refine tkH 7 zq ?_
  refine tkH 8 zq ?_
  refine tkH 9 zq ?_
  refine tkJ 10 (v := ?vb10_10) ?hb10_10 zq ?rb10_10
  case hb10_10 =>
   intro wS hSw
   have q2 := cZ hSw hb c2
   clear hSw
   exact fZ
  refine tkH 11 zq ?_
  refine tkH 12 zq ?_
  refine tkH 13 zq ?_
  refine tkJ 14 (v := ?vb14_14) ?hb14_14 zq ?rb14_14
  case hb14_14 =>
   intro wS hSw
   have q3 := cZ hSw hb c3
   clear hSw
   exact fZ
  refine tkH 15 zq ?_
  refine tkH 16 zq ?_
  refine tkH 17 zq ?_
  refine skH 18 zq ?_
  refine skH 19 zq ?_
  refine skH 20 zq ?_
  refine skH 21 zq ?_
  refine skH 22 zq ?_
  refine tkH 23 zq ?_
  refine dZ ?_
  have HB9 := yh zq
  clear zq
  go_wp2_with fail
  go_ret
  exact ⟨by rw [uh HF]; rfl, uh HB9⟩
theorem kV {w : World} {b off cap : Nat} {xs : List br} (h : (ad.sl ad.bg).Reads w [.slice (some ⟨b, off, none⟩) xs.length cap] xs) {k : Nat} (hk : k < xs.length) : ∃ a d, lz w b (off + k * 10) xs[k] (.slice a xs[k].write.vec.length d) ∧ (ad.sl ad.int).Reads w [.slice a xs[k].write.vec.length d] xs[k].write.vec := by
 obtain ⟨row, hc, hr⟩ := ad.aX h hk
 obtain ⟨a, d, rfl, R⟩ := bG hr
 exact ⟨a, d, ⟨hc 0 (by decide), hc 1 (by decide), hc 2 (by decide), hc 3 (by decide), hc 4 (by decide), hc 5 (by decide), hc 6 (by decide), hc 7 (by decide), hc 8 (by decide), hc 9 (by decide)⟩, jg R⟩
theorem kO {xs : List br} (h : 40 < xs.length) : aK xs = 2 := by rw [aK, if_pos h]
theorem lW {xs : List br} (h : ¬ 40 < xs.length) : aK xs = bD xs := by rw [aK, if_neg h]
theorem ji (v : Value) (xs : List br) (w : World) (h : (ad.sl ad.bg).Reads w [v] xs) :
  Calls Tryz.prog 149 #[v] w fun e w' => e = .returned (.int .i64 (aK xs)) ∧ Below w.heap.size w w' := by
 obtain ⟨ao, cap, rfl⟩ := aB h
 have hbig := h.da
 have H := yh h
 clear h
 by_cases h40 : 40 < xs.length
 ·
  have HF := yh (kO h40)
  have hd : decide ((40 : Int) < (xs.length : Int)) = true := by simp; omega
  go_enter Tryz.func149, Tryz.ntmps149
  go_wp2_with fail
  go_ret
  exact ⟨by rw [uh HF]; rfl, Below.refl _ _⟩
 have HF := yh (lW h40)
 have hd : decide ((40 : Int) < (xs.length : Int)) = false := by simp; omega
 go_enter Tryz.func149, Tryz.ntmps149
 go_wp2_with fail
 clear hd
 go_loopw [3] (fun i wr => ∃ k : Nat, k ≤ xs.length ∧ i = .int .i64 k ∧ (∀ j (hj : j < xs.length), j < k → au xs[j] = 0) ∧ Below w.heap.size w wr) (fun i _ => xs.length - (intOf i).toNat)
 case atStart => exact ⟨0, Nat.zero_le _, rfl, fun j _ hj => by omega, Below.refl _ _⟩
 case round =>
  obtain ⟨k, hk, rfl, hz, hB⟩ := hrel
  by_cases hlt : k < xs.length
  ·
   obtain ⟨b, off, rfl, hbl⟩ := ad.aF (uh H) (by omega)
   obtain ⟨a, d, hM, R⟩ := kV ((uh H).af hB) hlt
   have HL := yh (kM b (off + k * 10) a d xs[k] wr hM R)
   have hbr : b < wr.heap.size := Nat.lt_of_lt_of_le hbl hB.size
   have hdl : decide ((k : Int) < (xs.length : Int)) = true := by simp; omega
   have HB := yh hB
   have HAT : Hid (au xs[k] ≠ 0 → bD xs = au xs[k]) := fun q => ez hlt (fun j hj => hz j (by omega) hj) q
   have HZ2 : Hid (au xs[k] = 0 → ∀ j (hj : j < xs.length), j < k + 1 → au xs[j] = 0) := by
    intro h0 j hj hjk
    by_cases hjk2 : j < k
    ·
     exact hz j hj hjk2
    obtain rfl : j = k := by omega
    exact h0
   clear hz hM R hB
   generalize au xs[k] = f at *
   go_wp2_with fail
   refine (uh HL).mono ?_
   rintro e w2 ⟨rfl, hb⟩
   have HB2 := yh ((uh HB).trans (hb.mono (uh HB).size))
   clear hb HL HB
   by_cases hf : f = 0
   ·
    have HZ3 := yh (uh HZ2 hf)
    subst hf
    clear HZ2 HAT
    go_wp2_with fail
    go_roundw
    case rel => exact ⟨k + 1, by omega, by go_num, uh HZ3, uh HB2⟩
    case measure => simp [intOf]; omega
   have HA := yh ((uh HF).trans (uh HAT hf))
   have hd : (f != 0) = true := by simpa using hf
   clear HZ2 HAT hf
   go_wp2_with fail
   go_ret
   exact ⟨by rw [uh HA]; rfl, uh HB2⟩
  obtain rfl : k = xs.length := by omega
  have hdl : decide ((xs.length : Int) < (xs.length : Int)) = false := by simp
  have HA := yh ((uh HF).trans (ea fun x hx => by obtain ⟨j, hj, rfl⟩ := List.getElem_of_mem hx; exact hz j hj hj))
  have HB := yh hB
  clear hB hz
  go_wp2_with fail
  go_ret
  exact ⟨by rw [uh HA]; rfl, uh HB⟩
theorem jb (a3 : Option Addr) (d3 : Nat) (a4 : Option Addr) (d4 : Nat) (a5 : Option Addr) (d5 : Nat) (a6 : Option Addr) (d6 : Nat) (x : aL) (xb : Nat) (w : World) (hX : aj 0 #[.int .i64 x.now, .int .i64 x.events, .int .i64 x.chain.ab, .slice a3 x.chain.ids.length d3, .slice a4 x.nodes.length d4, .slice a5 x.msgs.length d5, .slice a6 x.ae.length d6] 37 w xb) (h : ad.aS.Reads w [.int .i64 x.now, .int .i64 x.events, .int .i64 x.chain.ab, .slice a3 x.chain.ids.length d3, .slice a4 x.nodes.length d4, .slice a5 x.msgs.length d5, .slice a6 x.ae.length d6] x) :
  Calls Tryz.prog 85 #[.pointer (some ⟨xb, 0, none⟩)] w fun e w' => e = .returned (.int .i64 (aT x)) ∧ Below w.heap.size w w' := by
 have HX := yh hX
 have HR := yh h
 have HB := yh (Below.refl w.heap.size w)
 have HP : Hid (aT x = if (decide (0 ≤ x.now) && decide (x.now ≤ 9000)) = false ∨ (decide (0 ≤ x.events) && decide (x.events ≤ 9999)) = false then 3 else if ax x.chain ≠ 0 then ax x.chain
  else if x.nodes.length < 1 ∨ 5 < x.nodes.length then 2 else if aU x ≠ 0 then aU x else if aK x.msgs ≠ 0 then aK x.msgs
  else if 60 < x.ae.length then 2 else if (x.ae.drop 0).all (dd x) = true then 0 else 3) := by
  have e1 : (¬ (0 ≤ x.now ∧ x.now ≤ 9000) ∨ ¬ (0 ≤ x.events ∧ x.events ≤ 9999)) ↔ ((decide (0 ≤ x.now) && decide (x.now ≤ 9000)) = false ∨ (decide (0 ≤ x.events) && decide (x.events ≤ 9999)) = false) := by
   simp only [Bool.and_eq_false_iff, decide_eq_false_iff_not]
   omega
  show aT x = _
  unfold aT
  by_cases h1 : (decide (0 ≤ x.now) && decide (x.now ≤ 9000)) = false ∨ (decide (0 ≤ x.events) && decide (x.events ≤ 9999)) = false
  ·
   rw [if_pos (e1.2 h1), if_pos h1]
  rw [if_neg (fun q => h1 (e1.1 q)), if_neg h1]
  rfl
 clear h hX
 generalize aT x = r at *
 have z0 := aj.at (uh HX) 0 _ rfl
 have z1 := aj.at (uh HX) 1 _ rfl
 have z2 := aj.at (uh HX) 2 _ rfl
 have z3 := aj.at (uh HX) 3 _ rfl
 have z4 := aj.at (uh HX) 4 _ rfl
 have z5 := aj.at (uh HX) 5 _ rfl
 have z6 := aj.at (uh HX) 6 _ rfl
 simp only [ga, gb, gc] at z0 z1 z2 z3 z4 z5 z6
 have xl := (uh HX).lt
 go_enter Tryz.func85, Tryz.ntmps85
 go_wp2_with fail
 refine (cM x.now 0 9000 w).mono ?_
 rintro e w2 ⟨rfl, h2⟩
 subst w2
 cases d1 : (decide (0 ≤ x.now) && decide (x.now ≤ 9000))
 ·
  replace HP := yh ((uh HP).trans (if_pos (Or.inl d1)))
  clear d1
  go_wp2_with fail
  go_ret
  exact ⟨by rw [uh HP]; rfl, uh HB⟩
 go_wp2_with fail
 refine (cM x.events 0 9999 w).mono ?_
 rintro e w2 ⟨rfl, h2⟩
 subst w2
 cases d2 : (decide (0 ≤ x.events) && decide (x.events ≤ 9999))
 ·
  replace HP := yh ((uh HP).trans (if_pos (Or.inr d2)))
  clear d1 d2
  go_wp2_with fail
  go_ret
  exact ⟨by rw [uh HP]; rfl, uh HB⟩
 replace HP := yh ((uh HP).trans (if_neg (by rw [d1, d2]; simp)))
 clear d1 d2
 go_wp2_with fail
 obtain ⟨_, _, _, _, _, _, _, _, hq, RC, -, -, -⟩ := aw (uh HR)
 simp only [List.cons.injEq, Value.slice.injEq, and_true, true_and] at hq
 obtain ⟨⟨rfl, rfl⟩, ⟨rfl, rfl⟩, ⟨rfl, rfl⟩, rfl, rfl⟩ := hq
 obtain ⟨_, _, hq, RI⟩ := bb RC
 simp only [List.cons.injEq, Value.slice.injEq, and_true, true_and] at hq
 obtain ⟨rfl, rfl⟩ := hq
 refine (jB xb 2 _ _ x.chain w ⟨(uh HX).at 2 _ rfl, (uh HX).at 3 _ rfl⟩ RI).mono ?_
 rintro e w2 ⟨rfl, h2⟩
 subst w2
 clear RC RI
 by_cases d3 : ax x.chain ≠ 0
 ·
  have hd : (ax x.chain != 0) = true := by simpa using d3
  replace HP := yh ((uh HP).trans (if_pos d3))
  clear d3
  generalize ax x.chain = c at *
  go_wp2_with fail
  go_ret
  exact ⟨by rw [uh HP]; rfl, uh HB⟩
 replace HP := yh ((uh HP).trans (if_neg d3))
 have hd : ax x.chain = 0 := by simpa using d3
 clear d3
 rw [hd]
 clear hd
 have hbn := (show x.nodes.length ≤ 9223372036854775807 from by
  obtain ⟨_, _, _, _, _, _, _, _, hq, -, RN, -, -⟩ := aw (uh HR)
  exact RN.da)
 by_cases d4 : x.nodes.length < 1 ∨ 5 < x.nodes.length
 ·
  replace HP := yh ((uh HP).trans (if_pos d4))
  by_cases d5 : x.nodes.length < 1
  ·
   have hd : decide ((x.nodes.length : Int) < 1) = true := by simp; omega
   clear d4 d5
   go_wp2_with fail
   go_ret
   exact ⟨by rw [uh HP]; rfl, uh HB⟩
  have hd : decide ((x.nodes.length : Int) < 1) = false := by simp; omega
  have hd2 : decide ((5 : Int) < (x.nodes.length : Int)) = true := by simp; omega
  clear d4 d5
  go_wp2_with fail
  go_ret
  exact ⟨by rw [uh HP]; rfl, uh HB⟩
 replace HP := yh ((uh HP).trans (if_neg d4))
 have hd : decide ((x.nodes.length : Int) < 1) = false := by simp; omega
 have hd2 : decide ((5 : Int) < (x.nodes.length : Int)) = false := by simp; omega
 have hn5 : x.nodes.length ≤ 5 := by omega
 clear d4
 go_wp2_with fail
 refine (jd _ _ _ _ _ _ _ _ x xb w (uh HX) (uh HR)).mono ?_
 rintro e w4 ⟨rfl, hb⟩
 clear xl hn5 z0 z1 z2 z3 z4 z5 z6
 replace HX := yh ((uh HX).ar hb)
 replace HR := yh ((uh HR).af hb)
 replace HB := bZ HB hb
 clear hb
 have z0 := aj.at (uh HX) 0 _ rfl
 have z1 := aj.at (uh HX) 1 _ rfl
 have z2 := aj.at (uh HX) 2 _ rfl
 have z3 := aj.at (uh HX) 3 _ rfl
 have z4 := aj.at (uh HX) 4 _ rfl
 have z5 := aj.at (uh HX) 5 _ rfl
 have z6 := aj.at (uh HX) 6 _ rfl
 simp only [ga, gb, gc] at z0 z1 z2 z3 z4 z5 z6
 have xl := (uh HX).lt
 by_cases d3 : aU x ≠ 0
 ·
  have hd : (aU x != 0) = true := by simpa using d3
  replace HP := yh ((uh HP).trans (if_pos d3))
  clear d3
  generalize aU x = c at *
  go_wp2_with fail
  go_ret
  exact ⟨by rw [uh HP]; rfl, uh HB⟩
 replace HP := yh ((uh HP).trans (if_neg d3))
 have hd : aU x = 0 := by simpa using d3
 clear d3
 rw [hd]
 clear hd
 go_wp2_with fail
 obtain ⟨_, _, _, _, _, _, _, _, hq, -, -, RM, -⟩ := aw (uh HR)
 simp only [List.cons.injEq, Value.slice.injEq, and_true, true_and] at hq
 obtain ⟨⟨rfl, rfl⟩, ⟨rfl, rfl⟩, ⟨rfl, rfl⟩, rfl, rfl⟩ := hq
 refine (ji _ x.msgs w4 RM).mono ?_
 rintro e w5 ⟨rfl, hb⟩
 clear RM xl z0 z1 z2 z3 z4 z5 z6
 replace HX := yh ((uh HX).ar hb)
 replace HR := yh ((uh HR).af hb)
 replace HB := bZ HB hb
 clear hb
 have z0 := aj.at (uh HX) 0 _ rfl
 have z1 := aj.at (uh HX) 1 _ rfl
 have z2 := aj.at (uh HX) 2 _ rfl
 have z3 := aj.at (uh HX) 3 _ rfl
 have z4 := aj.at (uh HX) 4 _ rfl
 have z5 := aj.at (uh HX) 5 _ rfl
 have z6 := aj.at (uh HX) 6 _ rfl
 simp only [ga, gb, gc] at z0 z1 z2 z3 z4 z5 z6
 have xl := (uh HX).lt
 by_cases d3 : aK x.msgs ≠ 0
 ·
  have hd : (aK x.msgs != 0) = true := by simpa using d3
  replace HP := yh ((uh HP).trans (if_pos d3))
  clear d3
  generalize aK x.msgs = c at *
  go_wp2_with fail
  go_ret
  exact ⟨by rw [uh HP]; rfl, uh HB⟩
 replace HP := yh ((uh HP).trans (if_neg d3))
 have hd : aK x.msgs = 0 := by simpa using d3
 clear d3
 rw [hd]
 clear hd
 obtain ⟨_, _, _, _, _, _, _, _, hq, -, -, -, RE⟩ := aw (uh HR)
 simp only [List.cons.injEq, Value.slice.injEq, and_true, true_and] at hq
 obtain ⟨⟨rfl, rfl⟩, ⟨rfl, rfl⟩, ⟨rfl, rfl⟩, rfl, rfl⟩ := hq
 have HE := yh RE
 have hbig := RE.da
 clear RE
 by_cases d4 : 60 < x.ae.length
 ·
  replace HP := yh ((uh HP).trans (if_pos d4))
  have hd : decide ((60 : Int) < (x.ae.length : Int)) = true := by simp; omega
  clear d4
  go_wp2_with fail
  go_ret
  exact ⟨by rw [uh HP]; rfl, uh HB⟩
 replace HP := yh ((uh HP).trans (if_neg d4))
 have hd : decide ((60 : Int) < (x.ae.length : Int)) = false := by simp; omega
 clear d4
 go_wp2_with fail
 clear z0 z1 z2 z3 z4 z5 z6 xl hd
 go_loopw [6] (fun i wr => ∃ k : Nat, k ≤ x.ae.length ∧ i = .int .i64 k ∧ r = (if (x.ae.drop k).all (dd x) = true then 0 else 3) ∧ Below w5.heap.size w5 wr) (fun i _ => x.ae.length - (intOf i).toNat)
 case atStart => exact ⟨0, Nat.zero_le _, rfl, uh HP, Below.refl _ _⟩
 case round =>
  obtain ⟨k, hk, rfl, hF, hB⟩ := hrel
  clear HP
  have hX2 := (uh HX).ar hB
  have y6 := aj.at hX2 6 _ rfl
  simp only [ga, gb, gc] at y6
  have xl := hX2.lt
  have HB3 := yh ((uh HB).trans (hB.mono (uh HB).size))
  by_cases hlt : k < x.ae.length
  ·
   obtain ⟨b, off, rfl, hbl⟩ := ad.aF (uh HE) (by omega)
   obtain ⟨row, hcl, hr⟩ := ad.aX (uh HE) hlt
   rw [List.drop_eq_getElem_cons hlt, List.all_cons] at hF
   have hdl : decide ((k : Int) < (x.ae.length : Int)) = true := by simp; omega
   have hrl := hr.len
   obtain ⟨aq, dq, av, dv, ah, dh, rfl, -⟩ := aZ hr
   have hE : cr #[.int .i64 (x.ae[k]).kind, .int .i64 (x.ae[k]).aa, .int .i64 (x.ae[k]).seq, .int .i64 (x.ae[k]).id, .slice aq (x.ae[k]).query.length dq, .int .i64 (x.ae[k]).k, .int .i64 (x.ae[k]).start, .int .i64 (x.ae[k]).fin, .int .i64 (x.ae[k]).place, .slice av (x.ae[k]).vec.length dv, .slice ah (x.ae[k]).aO.length dh] wr b (off + k * 11) := cr.ofRow (A := ad.aH) (k := k) (fun m hm => (hB.cell (p := ⟨b, off + k * 11 + m, none⟩) hbl).trans (hcl m hm)) hrl (Nat.lt_of_lt_of_le hbl hB.size)
   have HL := yh (jD _ _ _ _ _ _ _ _ _ _ _ _ _ _ x _ xb b (off + k * 11) wr hX2 hE)
   have HF := yh hF
   have HBQ := yh hB
   clear hF hX2 hB hr hrl hcl hE
   generalize x.ae[k] = z at *
   go_wp2_with fail
   refine (uh HL).mono ?_
   rintro e w5 ⟨rfl, hb⟩
   replace HB3 := bZ HB3 hb
   replace HBQ := bZ HBQ hb
   clear HL hb y6
   generalize dd x z = q at *
   cases q
   ·
    replace HF := yh ((uh HF).trans (if_neg (by simp)))
    go_wp2_with fail
    go_ret
    exact ⟨by rw [uh HF]; rfl, uh HB3⟩
   rw [Bool.true_and] at HF
   go_wp2_with fail
   go_roundw
   case rel => exact ⟨k + 1, by omega, by go_num, uh HF, uh HBQ⟩
   case measure => simp [intOf]; omega
  obtain rfl : k = x.ae.length := by omega
  rw [List.drop_length, List.all_nil, if_pos rfl] at hF
  have hdl : decide ((x.ae.length : Int) < (x.ae.length : Int)) = false := by simp
  have HF := yh hF
  clear hF hB hX2
  go_wp2_with fail
  go_ret
  exact ⟨by rw [uh HF]; rfl, uh HB3⟩
theorem jS (a3 : Option Addr) (d3 : Nat) (d4 : Nat) (a5 : Option Addr) (d5 : Nat) (a6 : Option Addr) (d6 : Nat) (b off k : Nat) (x : aL) (xb : Nat) (w : World) (hX : aj 0 #[.int .i64 x.now, .int .i64 x.events, .int .i64 x.chain.ab, .slice a3 x.chain.ids.length d3, .slice (some ⟨b, off, none⟩) x.nodes.length d4, .slice a5 x.msgs.length d5, .slice a6 x.ae.length d6] 37 w xb) (h : ad.aS.Reads w [.int .i64 x.now, .int .i64 x.events, .int .i64 x.chain.ab, .slice a3 x.chain.ids.length d3, .slice (some ⟨b, off, none⟩) x.nodes.length d4, .slice a5 x.msgs.length d5, .slice a6 x.ae.length d6] x) (hok : cH x) (hk : k < x.nodes.length) (ht : b8 x = (k : Int) + 1) :
  Calls Tryz.prog 82 #[.pointer (some ⟨xb, 0, none⟩)] w fun e w' => e = .returned (.pointer (some ⟨b, off + k * 7, none⟩)) ∧ Below w.heap.size w w' := by
 obtain ⟨_, _, _, _, _, _, _, _, hq, RC, RN, -, -⟩ := aw h
 simp only [List.cons.injEq, Value.slice.injEq, and_true, true_and] at hq
 obtain ⟨⟨rfl, rfl⟩, ⟨rfl, rfl⟩, -, -, -⟩ := hq
 obtain ⟨_, _, hq, RI⟩ := bb RC
 simp only [List.cons.injEq, Value.slice.injEq, and_true, true_and] at hq
 obtain ⟨rfl, rfl⟩ := hq
 have hl := (cu hok.chain).len
 obtain ⟨n, hn⟩ : ∃ n, x.chain.ids.length = n + 1 := ⟨x.chain.ids.length - 1, by omega⟩
 obtain ⟨bi, oi, rfl, hbi⟩ := ad.aF RI (by omega)
 have hlt : n < x.chain.ids.length := by omega
 have c1 := cm RI hlt
 have hv : x.chain.ids[n] = (k : Int) + 1 := by
  rw [← ht]
  have e : x.chain.ids.length - 1 = n := by omega
  simp [b8, e, List.getD, hlt]
 rw [hv] at c1
 have z3 := aj.at hX 3 _ rfl
 have z4 := aj.at hX 4 _ rfl
 simp only [ga, gb, gc] at z3 z4
 have zl := hX.lt
 have hn5 := hok.some
 have hw1 : IntKind.i64.wrap (k : Int) = (k : Int) := by
  rw [IntKind.wrap_i64]
  omega
 have hw2 : IntKind.i64.wrap (n : Int) = (n : Int) := by
  rw [IntKind.wrap_i64]
  omega
 have hw3 : IntKind.i64.wrap ((n : Int) + 1 - 1) = (n : Int) := by
  rw [IntKind.wrap_i64]
  omega
 have hki : (k : Int) < (x.nodes.length : Int) := by omega
 have hki0 : (0 : Int) ≤ (k : Int) := by omega
 have hni : (n : Int) < ((n + 1 : Nat) : Int) := by omega
 have hni0 : (0 : Int) ≤ (n : Int) := by omega
 have hns : ((n + 1 : Nat) : Int) - 1 = (n : Int) := by omega
 have HB := yh (Below.refl w.heap.size w)
 have HBD : Hid (∀ m, Below w.heap.size w (w.drewN m)) := fun m => bL (Below.refl _ _) m
 rw [hn] at z3
 clear hX h RC RN RI hl hlt hv hok hn5 hn ht
 go_enter Tryz.func82, Tryz.ntmps82
 go_wp2_with fail
 go_quiet (fail)
 go_wp2_with fail
 go_ret
 exact ⟨rfl, uh HBD _⟩
theorem iu (b off cap : Nat) (ws : List ai) (s q : Int) (w : World) (h : (ad.sl ad.ag).Reads w [.slice (some ⟨b, off, none⟩) ws.length cap] ws)  (hn : ws.length ≤ 10000000) :
  Calls Tryz.prog 83 #[.slice (some ⟨b, off, none⟩) ws.length cap, .int .i64 s, .int .i64 q] w fun e w' => e = .returned (.int .i64 (bf ws s q)) ∧ w' = w := by
 have H := yh h
 clear h
 go_enter Tryz.func83, Tryz.ntmps83
 go_wp2_with fail
 go_loop [7] (fun i => ∃ k : Nat, k ≤ ws.length ∧ i = .int .i64 k ∧ (∀ j (hj : j < ws.length), j < k → ¬ (ws[j].aa = s ∧ ws[j].seq = q))) (fun i => ws.length - (intOf i).toNat)
 case atStart => exact ⟨0, Nat.zero_le _, rfl, fun j _ hj => by omega⟩
 case round =>
  obtain ⟨k, hk, rfl, hz⟩ := hrel
  by_cases hlt : k < ws.length
  ·
   obtain ⟨row, hc, hr⟩ := ad.aX (uh H) hlt
   obtain ⟨a2, d2, rfl, R2⟩ := aQ hr
   have c3 : w.cell? ⟨b, off + k * 5 + 3, none⟩ = some (.int .i64 (ws[k]).aa) := hc 3 (by decide)
   have c4 : w.cell? ⟨b, off + k * 5 + 4, none⟩ = some (.int .i64 (ws[k]).seq) := hc 4 (by decide)
   have HAT : Hid (ws[k].aa = s ∧ ws[k].seq = q → bf ws s q = k + 1) := fun he => kf hlt hz he
   have HZ2 : Hid (¬ (ws[k].aa = s ∧ ws[k].seq = q) → ∀ j (hj : j < ws.length), j < k + 1 → ¬ (ws[j].aa = s ∧ ws[j].seq = q)) := by
    intro h0 j hj hjk
    by_cases hjk2 : j < k
    ·
     exact hz j hj hjk2
    obtain rfl : j = k := by omega
    exact h0
   clear hc hr R2 hz
   generalize hx : ws[k] = x at *
   clear hx
   have hwr : IntKind.i64.wrap ((k : Int) + 1) = (k : Int) + 1 := by rw [IntKind.wrap_i64]; omega
   by_cases hs : x.aa = s
   ·
    have ds : (x.aa == s) = true := by simpa using hs
    by_cases hq : x.seq = q
    ·
     have dq : (x.seq == q) = true := by simpa using hq
     have HG := yh (uh HAT ⟨hs, hq⟩)
     clear HAT HZ2 hs hq
     go_wp2_with fail
     go_ret
     exact ⟨by rw [uh HG]; simp, rfl⟩
    have dq : (x.seq == q) = false := by simpa using hq
    have HZ := yh (uh HZ2 fun e => hq e.2)
    clear HAT HZ2 hs hq hwr
    go_wp2_with fail
    go_round
    case rel => exact ⟨k + 1, by omega, by go_num, uh HZ⟩
    case measure => simp [intOf]; omega
   have ds : (x.aa == s) = false := by simpa using hs
   have HZ := yh (uh HZ2 fun e => hs e.1)
   clear HAT HZ2 hs hwr
   go_wp2_with fail
   go_round
   case rel => exact ⟨k + 1, by omega, by go_num, uh HZ⟩
   case measure => simp [intOf]; omega
  obtain rfl : k = ws.length := by omega
  have HG : Hid (bf ws s q = 0) := eN fun j hj => hz j hj hj
  clear H hz
  go_wp2_with fail
  go_ret
  exact ⟨by rw [uh HG]; rfl, rfl⟩
theorem kG (v : Value) (ws : List ai) (s q : Int) (w : World) (h : (ad.sl ad.ag).Reads w [v] ws) (hn : ws.length ≤ 10000000) :
  Calls Tryz.prog 83 #[v, .int .i64 s, .int .i64 q] w fun e w' => e = .returned (.int .i64 (bf ws s q)) ∧ w' = w := by
 obtain ⟨ao, cap, rfl⟩ := aB h
 by_cases hp : 0 < ws.length
 ·
  obtain ⟨b, off, rfl, -⟩ := ad.aF h hp
  exact iu b off cap ws s q w h hn
 obtain rfl : ws = [] := List.eq_nil_of_length_eq_zero (by omega)
 clear h hn hp
 go_enter Tryz.func83, Tryz.ntmps83
 go_wp2_with fail
 refine wp_loop_rounds 1 ?_
 rw [rounds_succ]
 go_wp2_with fail
 go_ret
 exact ⟨rfl, rfl⟩
theorem lp {α : Type} {A : ad α} {w : World} {xs : List α} {b off cap n lo hi : Nat} (h : (ad.sl A).aV w [.slice (some ⟨b, off, none⟩) n cap] xs lo hi) (k : Nat) (hk : k ≤ xs.length) : (ad.sl A).aV w [.slice (some ⟨b, off, none⟩) k cap] (xs.take k) lo hi := by
 have hl : (xs.take k).length = k := by rw [List.length_take]; omega
 obtain ⟨bl, ⟨⟨ao, cap', he, ⟨h1, h2⟩, hor⟩, hnd, hfz⟩, hr⟩ := h
 simp only [List.cons.injEq, Value.slice.injEq, and_true] at he
 obtain ⟨rfl, rfl, rfl⟩ := he
 rcases hor with ⟨rfl, -⟩ | ⟨b', off', rows, bls, he, hb, rfl, n1, n2, hj⟩
 ·
  obtain rfl : k = 0 := by simpa using hk
  exact ⟨[], ⟨⟨_, _, rfl, ⟨by simp, by simp⟩, Or.inl ⟨rfl, rfl⟩⟩, by simp, by simp⟩, by simp⟩
 simp only [Option.some.injEq, Addr.mk.injEq, and_true] at he
 obtain ⟨rfl, rfl⟩ := he
 have hsub : ∀ c ∈ b :: (bls.take k).flatten, c ∈ b :: bls.flatten := by
  intro c hc
  rcases List.mem_cons.1 hc with rfl | hc
  ·
   simp
  obtain ⟨l, h3, h4⟩ := List.mem_flatten.1 hc
  exact List.mem_cons_of_mem _ (List.mem_flatten.2 ⟨l, List.mem_of_mem_take h3, h4⟩)
 refine ⟨b :: (bls.take k).flatten, ⟨⟨_, _, by rw [hl], ⟨by omega, by omega⟩, Or.inr ⟨b, off, rows.take k, bls.take k, rfl, hb, rfl, by simp [n1], by simp [n2], fun j q1 q2 q3 => ?_⟩⟩, ?_, fun c hc => hfz c (hsub c hc)⟩, fun c hc => hr c (hsub c hc)⟩
 ·
  simp only [List.getElem_take]
  rw [List.length_take] at q1 q2 q3
  exact hj j (by omega) (by omega) (by omega)
 refine List.Nodup.sublist ?_ hnd
 refine List.Sublist.cons_cons _ ?_
 conv => rhs; rw [← List.take_append_drop k bls]
 rw [List.flatten_append]
 exact List.sublist_append_left _ _
theorem dR {α : Type} {A : ad α} {w : World} {xs : List α} {a : Option Addr} {cap n lo hi : Nat} (h : (ad.sl A).bY w [.slice a n cap] xs lo hi) (k : Nat) (hk : k ≤ xs.length) : (ad.sl A).bY w [.slice a k cap] (xs.take k) lo hi := by
 have hl : (xs.take k).length = k := by rw [List.length_take]; omega
 obtain ⟨bl, ⟨ao, cap', he, ⟨h1, h2⟩, hor⟩, hr⟩ := h
 simp only [List.cons.injEq, Value.slice.injEq, and_true] at he
 obtain ⟨rfl, rfl, rfl⟩ := he
 rcases hor with ⟨rfl, -⟩ | ⟨b', off', rows, bls, rfl, hb, rfl, n1, n2, hj⟩
 ·
  obtain rfl : k = 0 := by simpa using hk
  exact ⟨[], ⟨_, _, rfl, ⟨by simp, by simp⟩, Or.inl ⟨rfl, rfl⟩⟩, by simp⟩
 refine ⟨b' :: (bls.take k).flatten, ⟨_, _, by rw [hl], ⟨by omega, by omega⟩, Or.inr ⟨b', off', rows.take k, bls.take k, rfl, hb, rfl, by simp [n1], by simp [n2], fun j q1 q2 q3 => ?_⟩⟩, fun c hc => hr c ?_⟩
 ·
  simp only [List.getElem_take]
  rw [List.length_take] at q1 q2 q3
  exact hj j (by omega) (by omega) (by omega)
 rcases List.mem_cons.1 hc with rfl | hc
 ·
  simp
 obtain ⟨l, h3, h4⟩ := List.mem_flatten.1 hc
 exact List.mem_cons_of_mem _ (List.mem_flatten.2 ⟨l, List.mem_of_mem_take h3, h4⟩)
theorem jh (a3 : Option Addr) (d3 : Nat) (d4 : Nat) (a5 : Option Addr) (d5 : Nat) (a6 : Option Addr) (d6 : Nat) (b off k : Nat) (x : aL) (s q : Int) (xb : Nat) (w : World) (hX : aj 0 #[.int .i64 x.now, .int .i64 x.events, .int .i64 x.chain.ab, .slice a3 x.chain.ids.length d3, .slice (some ⟨b, off, none⟩) x.nodes.length d4, .slice a5 x.msgs.length d5, .slice a6 x.ae.length d6] 37 w xb) (h : ad.aS.Reads w [.int .i64 x.now, .int .i64 x.events, .int .i64 x.chain.ab, .slice a3 x.chain.ids.length d3, .slice (some ⟨b, off, none⟩) x.nodes.length d4, .slice a5 x.msgs.length d5, .slice a6 x.ae.length d6] x) (hok : cH x) (hk : k < x.nodes.length) (ht : b8 x = (k : Int) + 1) :
  Calls Tryz.prog 95 #[.pointer (some ⟨xb, 0, none⟩), .int .i64 s, .int .i64 q] w fun e w' => e = .returned (.int .i64 (bQ x s q)) ∧ Below w.heap.size w w' := by
 have HLT := yh (jS a3 d3 d4 a5 d5 a6 d6 b off k x xb w hX h hok hk ht)
 have HR := yh h
 have HNT := yh (cE (hok.nodes k hk).1)
 have HPL : Hid (bQ x s q = ((bf (x.nodes[k].writes.take x.nodes[k].sure.toNat) s q : Nat) : Int)) := by show bQ x s q = _; rw [bQ, fI hk ht]
 clear hX h hok ht
 go_enter Tryz.func95, Tryz.ntmps95
 go_wp2_with fail
 refine (uh HLT).mono ?_
 rintro e w5 ⟨rfl, hb5⟩
 replace HR := yh ((uh HR).af (hb5.trans ((Below.refl _ _).drew.mono hb5.size)))
 have HB : Hid (Below w.heap.size w w5.drew) := yh (hb5.trans ((Below.refl _ _).drew.mono hb5.size))
 clear hb5 HLT
 obtain ⟨_, _, _, _, _, _, _, _, hq, -, RN, -, -⟩ := aw (uh HR)
 simp only [List.cons.injEq, Value.slice.injEq, and_true, true_and] at hq
 obtain ⟨-, ⟨rfl, rfl⟩, -, -, -⟩ := hq
 obtain ⟨rowt, hclt, hrt⟩ := ad.aX RN hk
 obtain ⟨an, dn, rfl, RW⟩ := a0 hrt
 have hnt := uh HNT
 obtain ⟨m, hm⟩ : ∃ m : Nat, x.nodes[k].sure = (m : Int) := ⟨x.nodes[k].sure.toNat, by have := hnt.sure; omega⟩
 have s4 : w5.drew.cell? ⟨b, off + k * 7 + 4, none⟩ = some (.slice an x.nodes[k].writes.length dn) := hclt 4 (by decide)
 have s5 : w5.drew.cell? ⟨b, off + k * 7 + 5, none⟩ = some (.int .i64 x.nodes[k].sure) := hclt 5 (by decide)
 rw [hm] at s5
 have hmw : m ≤ x.nodes[k].writes.length := by have := hnt.sure; omega
 have hm40 : m ≤ 40 := by have := hnt.len; omega
 have hmd : m ≤ dn := Nat.le_trans hmw RW.cap.2
 have htm : x.nodes[k].sure.toNat = m := by omega
 rw [htm] at HPL
 have HT := dR RW.cF m hmw
 have hlt : (x.nodes[k].writes.take m).length = m := by rw [List.length_take]; omega
 have HL5 := yh (kG _ (x.nodes[k].writes.take m) s q w5.drew HT.reads (by rw [hlt]; omega))
 clear RN hclt hrt RW hnt hm HT hlt htm HNT HR
 go_upto_region 2 with fail
 refine wZz (fun w' => w' = w5.drew) rfl (fun zq => ?_)
 generalize w5.drew = wD at zq HL5 s4 s5 HB ⊢
 refine tkH 0 zq ?_
 refine tkH 1 zq ?_
 refine tkH 2 zq ?_
 refine tkJ 3 (v := ?ve3) ?he3 zq ?re3
 case he3 =>
  intro wS hSw
  subst hSw
  exact fZ
 refine tkH 4 zq ?_
 refine tkH 5 zq ?_
 refine tkH 6 zq ?_
 refine tkJ 7 (v := ?ve7) ?he7 zq ?re7
 case he7 =>
  intro wS hSw
  subst hSw
  exact fZ
 refine tkH 8 zq ?_
 refine tkH 9 zq ?_
 refine tkH 10 zq ?_
 refine rdH 11 (fun K hK => ?_)
 go_simp
 go_at_call 83
 refine (uh HL5).mono ?_
 rintro e u ⟨rfl, hu⟩
 subst hu
 try go_wp2_with fail
 refine hK.out _ _ rfl (fun zq => ?_)
 clear hK K
 try simp only [Act.put, pz, py, px]
 refine tkH 12 zq ?_
 refine dZ ?_
 clear zq s4 s5 HL5
 go_wp2_with fail
 go_ret
 exact ⟨by rw [uh HPL]; try rfl, uh HB⟩
theorem ku (a3 : Option Addr) (d3 : Nat) (d4 : Nat) (a5 : Option Addr) (d5 : Nat) (a6 : Option Addr) (d6 : Nat) (nb0 no0 k : Nat) (x : aL) (xb : Nat) (w : World) (hX : aj 0 #[.int .i64 x.now, .int .i64 x.events, .int .i64 x.chain.ab, .slice a3 x.chain.ids.length d3, .slice (some ⟨nb0, no0, none⟩) x.nodes.length d4, .slice a5 x.msgs.length d5, .slice a6 x.ae.length d6] 37 w xb) (h : ad.aS.Reads w [.int .i64 x.now, .int .i64 x.events, .int .i64 x.chain.ab, .slice a3 x.chain.ids.length d3, .slice (some ⟨nb0, no0, none⟩) x.nodes.length d4, .slice a5 x.msgs.length d5, .slice a6 x.ae.length d6] x) (hok : cH x) (hk : k < x.nodes.length) (ht : b8 x = (k : Int) + 1) :
  Calls Tryz.prog 88 #[.pointer (some ⟨xb, 0, none⟩)] w fun r w' => r = .returned (.bool (bB x x.ae)) ∧ Below w.heap.size w w' := by
 obtain ⟨_, _, _, _, _, _, _, _, hq, -, -, -, RE⟩ := aw h
 simp only [List.cons.injEq, Value.slice.injEq, and_true, true_and] at hq
 obtain ⟨-, -, -, ⟨rfl, rfl⟩⟩ := hq
 have H := yh RE
 have HX := yh hX
 have hfew := hok.few
 have HQ0 : Hid (∀ s q V, Below w.heap.size w V → Calls Tryz.prog 95 #[.pointer (some ⟨xb, 0, none⟩), .int .i64 s, .int .i64 q] V fun r w' => r = .returned (.int .i64 (bQ x s q)) ∧ Below V.heap.size V w') := fun s q V hV => jh a3 d3 d4 a5 d5 a6 d6 nb0 no0 k x s q xb V (hX.ar hV) (h.af hV) hok hk ht
 have HF : Hid (bB x x.ae = bB x (x.ae.drop 0)) := rfl
 clear h hX RE hok ht hk
 generalize bB x x.ae = R at *
 generalize hxs : x.ae = xs at *
 go_enter Tryz.func88, Tryz.ntmps88
 go_wp2_with fail
 go_loopw [3] (fun i wr => ∃ j : Nat, j ≤ xs.length ∧ i = .int .i64 j ∧ R = bB x (xs.drop j) ∧ Below w.heap.size w wr) (fun i _ => xs.length - (intOf i).toNat)
 case atStart => exact ⟨0, Nat.zero_le _, rfl, uh HF, Below.refl _ _⟩
 case round =>
  obtain ⟨j, hj, rfl, hF, hE⟩ := hrel
  clear HF
  have z6 := aj.at ((uh HX).ar hE) 6 _ rfl
  simp only [ga, gb, gc] at z6
  have zl := ((uh HX).ar hE).lt
  by_cases hlt : j < xs.length
  ·
   obtain ⟨b, off, rfl, hbl⟩ := ad.aF (uh H) (by omega)
   obtain ⟨row, hcl, hr⟩ := ad.aX (uh H) hlt
   rw [dX hlt] at hF
   have hdl : decide ((j : Int) < (xs.length : Int)) = true := by simp; omega
   have hki0 : (0 : Int) ≤ (j : Int) := by omega
   have hwk : IntKind.i64.wrap ((j : Int) + 1) = (j : Int) + 1 := by rw [IntKind.wrap_i64]; omega
   obtain ⟨aq, dq, av, dv, ah, dh, rfl, -⟩ := aZ hr
   have c0 : wr.cell? ⟨b, off + j * 11, none⟩ = some (.int .i64 (xs[j]).kind) := (hE.cell (p := ⟨b, off + j * 11, none⟩) hbl).trans (hcl 0 (by decide))
   have c1 : wr.cell? ⟨b, off + j * 11 + 1, none⟩ = some (.int .i64 (xs[j]).aa) := (hE.cell (p := ⟨b, off + j * 11 + 1, none⟩) hbl).trans (hcl 1 (by decide))
   have c2 : wr.cell? ⟨b, off + j * 11 + 2, none⟩ = some (.int .i64 (xs[j]).seq) := (hE.cell (p := ⟨b, off + j * 11 + 2, none⟩) hbl).trans (hcl 2 (by decide))
   have c7 : wr.cell? ⟨b, off + j * 11 + 7, none⟩ = some (.int .i64 (xs[j]).fin) := (hE.cell (p := ⟨b, off + j * 11 + 7, none⟩) hbl).trans (hcl 7 (by decide))
   have c8 : wr.cell? ⟨b, off + j * 11 + 8, none⟩ = some (.int .i64 (xs[j]).place) := (hE.cell (p := ⟨b, off + j * 11 + 8, none⟩) hbl).trans (hcl 8 (by decide))
   have hbl2 : b < wr.heap.size := Nat.lt_of_lt_of_le hbl hE.size
   have HQ : Hid (∀ V, Below wr.heap.size wr V → Calls Tryz.prog 95 #[.pointer (some ⟨xb, 0, none⟩), .int .i64 xs[j].aa, .int .i64 xs[j].seq] V fun r w' => r = .returned (.int .i64 (bQ x xs[j].aa xs[j].seq)) ∧ Below V.heap.size V w') := fun V hV => uh HQ0 _ _ V (hE.trans (hV.mono hE.size))
   have HKB : Hid (dT x xs[j] = (xs[j].kind != 1 || (xs[j].fin == 0 || xs[j].place == bQ x xs[j].aa xs[j].seq))) := rfl
   have HF := yh hF
   have HE := yh hE
   clear hF hE hcl hr
   generalize dT x xs[j] = kb at *
   generalize hx : xs[j] = e at *
   clear hx
   generalize bQ x e.aa e.seq = pl at *
   go_upto_region 5 with fail
   clear z6 zl
   cases h1 : (e.kind == 1)
   ·
    have h0 : (e.kind != 1) = true := by simpa [bne] using h1
    rw [h0, Bool.true_or] at HKB
    rw [uh HKB, Bool.true_and] at HF
    clear h0 HQ HKB
    refine wZz (fun w' => Below wr.heap.size wr w') ((Below.refl _ _).drew) (fun zq => ?_)
    generalize wr.drew = wD at zq ⊢
    refine tkH 0 zq ?_
    refine tkH 1 zq ?_
    refine tkH 2 zq ?_
    refine tkJ 3 (v := ?vk03) ?hk03 zq ?rk03
    case hk03 =>
     intro wS hSw
     have q0 := cZ hSw hbl2 c0
     clear hSw
     exact fZ
    refine tkH 4 zq ?_
    refine tkH 5 zq ?_
    refine skH 6 zq ?_
    refine skH 7 zq ?_
    refine skH 8 zq ?_
    refine skH 9 zq ?_
    refine skH 10 zq ?_
    refine tkH 11 zq ?_
    refine tkH 12 zq ?_
    refine skH 13 zq ?_
    refine skH 14 zq ?_
    refine skH 15 zq ?_
    refine skH 16 zq ?_
    refine skH 17 zq ?_
    refine skH 18 zq ?_
    refine skH 19 zq ?_
    refine skH 20 zq ?_
    refine skH 21 zq ?_
    refine skH 22 zq ?_
    refine skH 23 zq ?_
    refine skH 24 zq ?_
    refine skH 25 zq ?_
    refine skH 26 zq ?_
    refine skH 27 zq ?_
    refine tkH 28 zq ?_
    refine dZ ?_
    go_wp2_with fail
    go_roundw
    case rel => exact ⟨j + 1, by omega, by go_num, uh HF, (uh HE).trans (zq.mono (uh HE).size)⟩
    case measure => simp [intOf]; omega
   have h0 : (e.kind != 1) = false := by simpa [bne] using h1
   rw [h0, Bool.false_or] at HKB
   cases h2 : (e.fin != 0)
   ·
    have h3 : (e.fin == 0) = true := by simpa using h2
    rw [h3, Bool.true_or] at HKB
    rw [uh HKB, Bool.true_and] at HF
    clear h0 h3 HQ HKB
    refine wZz (fun w' => Below wr.heap.size wr w') ((Below.refl _ _).drew) (fun zq => ?_)
    generalize wr.drew = wD at zq ⊢
    refine tkH 0 zq ?_
    refine tkH 1 zq ?_
    refine tkH 2 zq ?_
    refine tkJ 3 (v := ?vk13) ?hk13 zq ?rk13
    case hk13 =>
     intro wS hSw
     have q0 := cZ hSw hbl2 c0
     clear hSw
     exact fZ
    refine tkH 4 zq ?_
    refine tkH 5 zq ?_
    refine tkH 6 zq ?_
    refine tkH 7 zq ?_
    refine tkH 8 zq ?_
    refine tkJ 9 (v := ?vk19) ?hk19 zq ?rk19
    case hk19 =>
     intro wS hSw
     have q7 := cZ hSw hbl2 c7
     clear hSw
     exact fZ
    refine tkH 10 zq ?_
    refine tkH 11 zq ?_
    refine tkH 12 zq ?_
    refine skH 13 zq ?_
    refine skH 14 zq ?_
    refine skH 15 zq ?_
    refine skH 16 zq ?_
    refine skH 17 zq ?_
    refine skH 18 zq ?_
    refine skH 19 zq ?_
    refine skH 20 zq ?_
    refine skH 21 zq ?_
    refine skH 22 zq ?_
    refine skH 23 zq ?_
    refine skH 24 zq ?_
    refine skH 25 zq ?_
    refine skH 26 zq ?_
    refine skH 27 zq ?_
    refine tkH 28 zq ?_
    refine dZ ?_
    go_wp2_with fail
    go_roundw
    case rel => exact ⟨j + 1, by omega, by go_num, uh HF, (uh HE).trans (zq.mono (uh HE).size)⟩
    case measure => simp [intOf]; omega
   have h3 : (e.fin == 0) = false := by simpa using h2
   rw [h3, Bool.false_or] at HKB
   clear h0 h3
   refine wZz (fun w' => Below wr.heap.size wr w') ((Below.refl _ _).drew) (fun zq => ?_)
   generalize wr.drew = wD at zq ⊢
   refine tkH 0 zq ?_
   refine tkH 1 zq ?_
   refine tkH 2 zq ?_
   refine tkJ 3 (v := ?vk23) ?hk23 zq ?rk23
   case hk23 =>
    intro wS hSw
    have q0 := cZ hSw hbl2 c0
    clear hSw
    exact fZ
   refine tkH 4 zq ?_
   refine tkH 5 zq ?_
   refine tkH 6 zq ?_
   refine tkH 7 zq ?_
   refine tkH 8 zq ?_
   refine tkJ 9 (v := ?vk29) ?hk29 zq ?rk29
   case hk29 =>
    intro wS hSw
    have q7 := cZ hSw hbl2 c7
    clear hSw
    exact fZ
   refine tkH 10 zq ?_
   refine tkH 11 zq ?_
   refine tkH 12 zq ?_
   refine tkH 13 zq ?_
   refine tkH 14 zq ?_
   refine tkH 15 zq ?_
   refine tkH 16 zq ?_
   refine tkJ 17 (v := ?vk217) ?hk217 zq ?rk217
   case hk217 =>
    intro wS hSw
    have q1 := cZ hSw hbl2 c1
    clear hSw
    exact fZ
   refine tkH 18 zq ?_
   refine tkH 19 zq ?_
   refine tkH 20 zq ?_
   refine tkJ 21 (v := ?vk221) ?hk221 zq ?rk221
   case hk221 =>
    intro wS hSw
    have q2 := cZ hSw hbl2 c2
    clear hSw
    exact fZ
   refine tkH 23 zq ?_
   refine tkH 24 zq ?_
   refine tkH 25 zq ?_
   refine tkJ 26 (v := ?vk226) ?hk226 zq ?rk226
   case hk226 =>
    intro wS hSw
    have q8 := cZ hSw hbl2 c8
    clear hSw
    exact fZ
   refine rdH 22 (fun K hK => ?_)
   go_simp
   go_at_call 95
   refine (uh HQ _ zq).mono ?_
   rintro r u ⟨rfl, hbu⟩
   try go_wp2_with fail
   refine hK.out _ _ (zq.trans (hbu.mono zq.size)) (fun zq => ?_)
   clear hK K
   try simp only [Act.put, pz, py, px]
   refine tkH 27 zq ?_
   refine tkH 28 zq ?_
   refine dZ ?_
   cases h4 : (pl != e.place)
   ·
    have h5 : (e.place == pl) = true := by
     have : pl = e.place := by simpa using h4
     rw [this]; simp
    rw [uh HKB, h5, Bool.true_and] at HF
    clear h5 HKB
    go_wp2_with fail
    go_roundw
    case rel => exact ⟨j + 1, by omega, by go_num, uh HF, (uh HE).trans (zq.mono (uh HE).size)⟩
    case measure => simp [intOf]; omega
   have h5 : (e.place == pl) = false := by
    have : ¬ pl = e.place := by simpa using h4
    simp only [beq_eq_false_iff_ne]
    exact fun c => this c.symm
   rw [uh HKB, h5, Bool.false_and] at HF
   clear h5 HKB
   go_wp2_with fail
   go_ret
   exact ⟨by rw [uh HF]; try rfl, (uh HE).trans (zq.mono (uh HE).size)⟩
  ·
   obtain rfl : j = xs.length := by omega
   rw [List.drop_length] at hF
   have hdl : decide ((xs.length : Int) < (xs.length : Int)) = false := by simp
   have HF := yh hF
   have HE := yh hE
   clear hF hE
   go_wp2_with fail
   go_ret
   exact ⟨by rw [uh HF]; rfl, uh HE⟩
theorem fu (cs : List Value) (x : aL) (w : World) (h : ad.aS.Reads w cs x) :
  Calls Tryz.prog 34 #[.agg cs.toArray] w fun r w' => r = .returned (.bool (cc x)) ∧ Below w.heap.size w w' := by
 obtain ⟨a3, d3, a4, d4, a5, d5, a6, d6, rfl, -, -, -, -⟩ := aw h
 have nb : Below w.heap.size w (w.alloc (.cells #[.int .i64 x.now, .int .i64 x.events, .int .i64 x.chain.ab, .slice a3 x.chain.ids.length d3, .slice a4 x.nodes.length d4, .slice a5 x.msgs.length d5, .slice a6 x.ae.length d6] 37)) := (Below.refl _ _).alloc (Nat.le_refl _) _
 have HX : Hid (aj 0 #[.int .i64 x.now, .int .i64 x.events, .int .i64 x.chain.ab, .slice a3 x.chain.ids.length d3, .slice a4 x.nodes.length d4, .slice a5 x.msgs.length d5, .slice a6 x.ae.length d6] 37 (w.alloc (.cells #[.int .i64 x.now, .int .i64 x.events, .int .i64 x.chain.ab, .slice a3 x.chain.ids.length d3, .slice a4 x.nodes.length d4, .slice a5 x.msgs.length d5, .slice a6 x.ae.length d6] 37)) w.heap.size) := aI (Nat.zero_le _)
 have HB := yh nb
 have HR := yh (h.af nb)
 have HP : Hid (cc x = (aT x == 0 && bB x x.ae)) := rfl
 clear nb h
 generalize cc x = R at *
 go_enter Tryz.func34, Tryz.ntmps34
 go_upto_region 1 with fail
 generalize (w.alloc (.cells #[.int .i64 x.now, .int .i64 x.events, .int .i64 x.chain.ab, .slice a3 x.chain.ids.length d3, .slice a4 x.nodes.length d4, .slice a5 x.msgs.length d5, .slice a6 x.ae.length d6] 37)) = W0 at *
 go_wp2_with fail
 refine (jb a3 d3 a4 d4 a5 d5 a6 d6 x w.heap.size W0 (uh HX) (uh HR)).mono ?_
 rintro r wa ⟨rfl, hb⟩
 replace HX := yh ((uh HX).ar hb)
 replace HR := yh ((uh HR).af hb)
 replace HB := bZ HB hb
 clear hb
 by_cases d1 : aT x = 0
 ·
  have hok := db d1
  obtain ⟨k, hk, ht⟩ := tail_at hok
  obtain ⟨_, _, _, _, _, _, _, _, hq, -, RN, -, -⟩ := aw (uh HR)
  simp only [List.cons.injEq, Value.slice.injEq, and_true, true_and] at hq
  obtain ⟨-, ⟨rfl, rfl⟩, -, -, -⟩ := hq
  obtain ⟨b, off, rfl, hbl⟩ := ad.aF RN (by omega)
  have HL := yh (ku a3 d3 d4 a5 d5 a6 d6 b off k x w.heap.size wa (uh HX) (uh HR) hok hk ht)
  rw [d1] at HP ⊢
  have e0 : ((0 : Int) == 0) = true := rfl
  rw [e0, Bool.true_and] at HP
  clear hok ht hk d1 e0 HR RN HX
  generalize bB x x.ae = K at *
  go_wp2_with fail
  refine (uh HL).mono ?_
  rintro r wb ⟨rfl, hb⟩
  replace HB := bZ HB hb
  clear hb HL
  go_wp2_with fail
  go_ret
  exact ⟨by rw [uh HP]; try rfl, uh HB⟩
 ·
  have hd : (aT x == 0) = false := by simpa using d1
  rw [hd, Bool.false_and] at HP
  clear d1
  go_wp2_with fail
  go_ret
  exact ⟨by rw [uh HP]; try rfl, uh HB⟩
theorem ln (cs : List Value) (x : ba) (w : World) (h : ad.aY.Reads w cs x) (k : Nat) (hk : x.ids.length = k + 1) (hn : x.ids.length ≤ 5) :
  Calls Tryz.prog 194 #[.agg cs.toArray] w fun e w' => e = .returned (.int .i64 (x.ids.getD k 0)) ∧ Below w.heap.size w w' := by
 obtain ⟨a3, d3, rfl, R3⟩ := bb h
 have hlt : k < x.ids.length := by omega
 have hv : x.ids.getD k 0 = x.ids[k] := by simp [List.getD, hlt]
 rw [hv]
 have nb : Below w.heap.size w (w.alloc (.cells #[.int .i64 x.ab, .slice a3 x.ids.length d3] 32)) := (Below.refl _ _).alloc (Nat.le_refl _) _
 have HX : Hid (aj 0 #[.int .i64 x.ab, .slice a3 x.ids.length d3] 32 (w.alloc (.cells #[.int .i64 x.ab, .slice a3 x.ids.length d3] 32)) w.heap.size) := aI (Nat.zero_le _)
 have R := R3.af nb
 obtain ⟨b, off, rfl, hbl⟩ := ad.aF R (by omega)
 have c1 := cm R hlt
 have HB := yh nb
 have hw1 : IntKind.i64.wrap ((k : Int) + 1 - 1) = (k : Int) := by rw [IntKind.wrap_i64]; omega
 have hw2 : IntKind.i64.wrap (k : Int) = (k : Int) := by rw [IntKind.wrap_i64]; omega
 have hki0 : (0 : Int) ≤ (k : Int) := by omega
 have hki : (k : Int) < ((k + 1 : Nat) : Int) := by omega
 have hks : ((k + 1 : Nat) : Int) - 1 = (k : Int) := by omega
 clear hv
 generalize x.ids[k] = z at *
 have HK := yh hk
 clear nb R R3 h hlt hn hk
 go_enter Tryz.func194, Tryz.ntmps194
 go_upto_region 1 with fail
 generalize hWW : w.alloc (.cells #[.int .i64 x.ab, .slice (some ⟨b, off, none⟩) x.ids.length d3] 32) = w1 at *
 have z1 := aj.at (uh HX) 1 _ rfl
 simp only [ga, gb, gc] at z1
 have zl := (uh HX).lt
 clear hWW HX
 have hk := uh HK
 rw [hk] at z1
 clear hk HK
 go_wp2_with fail
 go_ret
 exact ⟨rfl, uh HB⟩
end Go.Proofs.YtecagllmonckgaaGreat
