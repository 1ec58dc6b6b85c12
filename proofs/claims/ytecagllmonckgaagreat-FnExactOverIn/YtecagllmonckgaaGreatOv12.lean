/-
  Texts of this proof in one: SpecMsgF, SpecNetF, SpecWF, SpecOver, ImplOver, LawOver, OpenChain, OpenWrite, OpenNode, OpenMsg, OpenHit.
  Their conditions stand in their theorems.
-/
import Derived.Test.YtecagllmonckgaaGreatChecked
import Derived.Test.YtecagllmonckgaaGreatOv06
import Derived.Test.YtecagllmonckgaaGreatOv05
import Derived.Test.YtecagllmonckgaaGreatOv11
import Derived.Test.YtecagllmonckgaaGreatOv01
import Derived.Deep.RegionHeld3
import Derived.Deep.CutRange
import Derived.Test.YtecagllmonckgaaGreatOv00
import Derived.Test.YtecagllmonckgaaGreatOv10
import Derived.Test.YtecagllmonckgaaGreatOv09
import Derived.Test.YtecagllmonckgaaGreatOv07
set_option maxRecDepth 100000
set_option maxHeartbeats 4000000
namespace Go.Proofs.YtecagllmonckgaaGreat
open Go.RowKit
def kL (w : World) (b o : Nat) (x : bk) (v : Value) : Prop :=
 w.cell? ⟨b, o, none⟩ = some (.int .i64 x.kind) ∧ w.cell? ⟨b, o + 1, none⟩ = some (.int .i64 x.ab) ∧ w.cell? ⟨b, o + 2, none⟩ = some (.int .i64 x.src) ∧ w.cell? ⟨b, o + 3, none⟩ = some (.int .i64 x.dst) ∧ w.cell? ⟨b, o + 4, none⟩ = some (.int .i64 x.index) ∧ w.cell? ⟨b, o + 5, none⟩ = some (.int .i64 x.write.kind) ∧ w.cell? ⟨b, o + 5 + 1, none⟩ = some (.int .i64 x.write.id) ∧ w.cell? ⟨b, o + 5 + 2, none⟩ = some (v) ∧ w.cell? ⟨b, o + 5 + 3, none⟩ = some (.int .i64 x.write.aa) ∧ w.cell? ⟨b, o + 5 + 4, none⟩ = some (.int .i64 x.write.seq)
theorem lk {y : aj} (h : (y.kind == 0) = false) : decide (iq y) = false := by
 rw [decide_eq_false_iff_not]; intro q; rw [q.1] at h; simp at h
theorem kN {y : aj} (h : (y.id == 0) = false) : decide (iq y) = false := by
 rw [decide_eq_false_iff_not]; intro q; rw [q.2.1] at h; simp at h
theorem la {y : aj} (h : (y.aa == 0) = false) : decide (iq y) = false := by
 rw [decide_eq_false_iff_not]; intro q; rw [q.2.2.1] at h; simp at h
theorem kY {y : aj} (h : (y.seq == 0) = false) : decide (iq y) = false := by
 rw [decide_eq_false_iff_not]; intro q; rw [q.2.2.2.1] at h; simp at h
theorem ld {y : aj} (h : ((y.vec.length : Int) == 0) = false) : decide (iq y) = false := by
 rw [decide_eq_false_iff_not]; intro q; rw [q.2.2.2.2] at h; simp at h
theorem lv {y : aj} (h0 : (y.kind == 0) = true) (h1 : (y.id == 0) = true) (h2 : (y.aa == 0) = true) (h3 : (y.seq == 0) = true) (h4 : ((y.vec.length : Int) == 0) = true) : decide (iq y) = true := by
 rw [decide_eq_true_iff]
 simp only [beq_iff_eq] at h0 h1 h2 h3 h4
 exact ⟨h0, h1, h2, h3, by omega⟩
theorem kh {x : bk} (h : (decide (1 ≤ x.kind) && decide (x.kind ≤ 2)) = false) : ak x = 1 := by
 rw [ak, if_pos (Or.inl (by simpa using h))]
theorem km {x : bk} (h : (x.src == x.dst) = true) : ak x = 1 := by
 rw [ak, if_pos (Or.inr (Or.inl (beq_iff_eq.1 h)))]
theorem kV {x : bk} (h : (x.kind == 2) = true) (h2 : decide (iq x.write) = false) : ak x = 1 := by
 rw [ak, if_pos (Or.inr (Or.inr ⟨beq_iff_eq.1 h, decide_eq_false_iff_not.1 h2⟩))]
def bL (x : bk) : Int := if ¬ (1 ≤ x.ab ∧ x.ab ≤ 999) ∨ ¬ (1 ≤ x.src ∧ x.src ≤ 5) ∨ ¬ (1 ≤ x.dst ∧ x.dst ≤ 5) ∨ ¬ (0 ≤ x.index ∧ x.index ≤ 40) ∨ (x.kind ≠ 2 ∧ x.index = 0) then 3
 else if x.kind = 2 then 0 else wF x.write
theorem jY {x : bk} (h : (decide (1 ≤ x.kind) && decide (x.kind ≤ 2)) = true) (h1 : (x.src == x.dst) = false) (h2 : (x.kind == 2) = false) : ak x = bL x := by
 rw [ak, if_neg, bL]
 simp at h h1 h2
 rintro (q | q | q)
 ·
  exact q h
 ·
  exact h1 q
 exact h2 q.1
theorem jC {x : bk} (h : (decide (1 ≤ x.kind) && decide (x.kind ≤ 2)) = true) (h1 : (x.src == x.dst) = false) (h2 : decide (iq x.write) = true) : ak x = bL x := by
 rw [ak, if_neg, bL]
 simp at h h1 h2
 rintro (q | q | q)
 ·
  exact q h
 ·
  exact h1 q
 exact q.2 h2
theorem gD {x : bk} (h : (decide (1 ≤ x.ab) && decide (x.ab ≤ 999)) = false) : bL x = 3 := by
 rw [bL, if_pos (Or.inl (by simpa using h))]
theorem jO {x : bk} (h : (decide (1 ≤ x.src) && decide (x.src ≤ 5)) = false) : bL x = 3 := by
 rw [bL, if_pos (Or.inr (Or.inl (by simpa using h)))]
theorem jK {x : bk} (h : (decide (1 ≤ x.dst) && decide (x.dst ≤ 5)) = false) : bL x = 3 := by
 rw [bL, if_pos (Or.inr (Or.inr (Or.inl (by simpa using h))))]
theorem gJ {x : bk} (h : (decide (0 ≤ x.index) && decide (x.index ≤ 40)) = false) : bL x = 3 := by
 rw [bL, if_pos (Or.inr (Or.inr (Or.inr (Or.inl (by simpa using h)))))]
theorem kD {x : bk} (h : (x.kind == 2) = false) (h2 : (x.index == 0) = true) : bL x = 3 := by
 rw [bL, if_pos (Or.inr (Or.inr (Or.inr (Or.inr ⟨by simpa using h, by simpa using h2⟩))))]
theorem kI {x : bk} (h0 : (decide (1 ≤ x.ab) && decide (x.ab ≤ 999)) = true) (h1 : (decide (1 ≤ x.src) && decide (x.src ≤ 5)) = true) (h2 : (decide (1 ≤ x.dst) && decide (x.dst ≤ 5)) = true) (h3 : (decide (0 ≤ x.index) && decide (x.index ≤ 40)) = true) (h4 : (x.kind == 2) = true ∨ (x.index == 0) = false) : bL x = if x.kind = 2 then 0 else wF x.write := by
 rw [bL, if_neg]
 simp at h0 h1 h2 h3 h4
 rintro (q | q | q | q | q)
 ·
  exact q h0
 ·
  exact q h1
 ·
  exact q h2
 ·
  exact q h3
 rcases h4 with h4 | h4
 ·
  exact q.1 h4
 exact h4 q.2
theorem jj {w : World} {y : aj} {a : Option Addr} {d : Nat} (h : ad.ag.Reads w [.int .i64 y.kind, .int .i64 y.id, .slice a y.vec.length d, .int .i64 y.aa, .int .i64 y.seq] y) : (ad.sl ad.int).Reads w [.slice a y.vec.length d] y.vec := by
 obtain ⟨a2, d2, e, R⟩ := aP h
 simp only [List.cons.injEq, Value.slice.injEq, and_true, true_and] at e
 obtain ⟨rfl, rfl⟩ := e
 exact R
theorem kF (b o : Nat) (a : Option Addr) (d : Nat) (x : bk) (w : World) (hM : kL w b o x (.slice a x.write.vec.length d)) (R : (ad.sl ad.int).Reads w [.slice a x.write.vec.length d] x.write.vec) :
  Calls Tryz.prog 210 #[.pointer (some ⟨b, o, none⟩)] w fun e w' => e = .returned (.int .i64 (ak x)) ∧ Below w.heap.size w w' := by
 have hbig := R.cS
 have H := yh R
 have HM := yh hM
 obtain ⟨c0, c1, c2, c3, c4, c5, c6, c7, c8, c9⟩ := hM
 have hb := World.block_lt_of_cell? _ _ c0
 clear R
 go_enter Tryz.func210, Tryz.ntmps210
 go_upto_region 2 with fail
 go_cut [4] from 10 to 48 (fun s4 wx => s4 = .bool (decide (iq x.write)) ∧ wx = w)
 case first =>
  cases e0 : (x.write.kind == 0)
  ·
   have HF := yh (lk e0)
   go_wp2_with fail
   go_meet
   exact ⟨by rw [uh HF], rfl⟩
  cases e1 : (x.write.id == 0)
  ·
   have HF := yh (kN e1)
   go_wp2_with fail
   go_meet
   exact ⟨by rw [uh HF], rfl⟩
  cases e2 : (x.write.aa == 0)
  ·
   have HF := yh (la e2)
   go_wp2_with fail
   go_meet
   exact ⟨by rw [uh HF], rfl⟩
  cases e3 : (x.write.seq == 0)
  ·
   have HF := yh (kY e3)
   go_wp2_with fail
   go_meet
   exact ⟨by rw [uh HF], rfl⟩
  cases e4 : ((x.write.vec.length : Int) == 0)
  ·
   have HF := yh (ld e4)
   go_wp2_with fail
   go_meet
   exact ⟨by rw [uh HF], rfl⟩
  have HF := yh (lv e0 e1 e2 e3 e4)
  go_wp2_with fail
  go_meet
  exact ⟨by rw [uh HF], rfl⟩
 case rest =>
  obtain ⟨rfl, hwc⟩ := hcut
  subst hwc
  cases d1 : (decide (1 ≤ x.kind) && decide (x.kind ≤ 2))
  ·
   have HF := yh (kh d1)
   go_upto_region 3 with fail
   refine wZz (fun w' => Below wc.heap.size wc w') (Below.refl _ _).drew (fun zq => ?_)
   generalize wc.drew = wD at zq ⊢
   refine tkH 0 zq ?_
   refine tkH 1 zq ?_
   refine tkH 2 zq ?_
   refine tkJ 3 (v := ?va3_4) ?ha3_4 zq ?ra3_4
   case ha3_4 =>
    intro wS hSw
    have q0 := cZ hSw hb c0
    clear hSw
    exact fZ
   refine rdH 4 (fun K hK => ?_)
   go_simp
   go_at_call 102
   refine (cF x.kind 1 2 _).mono ?_
   rintro e w1 ⟨rfl, h1⟩
   subst w1
   rw [d1]
   try go_wp2_with fail
   refine hK.out _ _ zq (fun zq => ?_)
   clear hK K
   try simp only [Act.put, pz, py, px]
   refine tkH 5 zq ?_
   refine tkH 6 zq ?_
   refine skH 7 zq ?_
   refine skH 8 zq ?_
   refine skH 9 zq ?_
   refine skH 10 zq ?_
   refine skH 11 zq ?_
   refine skH 12 zq ?_
   refine skH 13 zq ?_
   refine skH 14 zq ?_
   refine skH 15 zq ?_
   refine tkH 16 zq ?_
   refine tkH 17 zq ?_
   refine skH 18 zq ?_
   refine skH 19 zq ?_
   refine skH 20 zq ?_
   refine skH 21 zq ?_
   refine skH 22 zq ?_
   refine tkH 23 zq ?_
   refine dZ ?_
   have HB9 := yh zq
   clear zq
   go_wp2_with fail
   go_ret
   exact ⟨by rw [uh HF]; rfl, uh HB9⟩
  cases e1 : (x.src == x.dst)
  ·
   cases e2 : (x.kind == 2)
   ·
    have HRS := yh (jY d1 e1 e2)
    go_upto_region 3 with fail
    refine wZz (fun w' => Below wc.heap.size wc w') (Below.refl _ _).drew (fun zq => ?_)
    generalize wc.drew = wD at zq ⊢
    refine tkH 0 zq ?_
    refine tkH 1 zq ?_
    refine tkH 2 zq ?_
    refine tkJ 3 (v := ?vc3_4) ?hc3_4 zq ?rc3_4
    case hc3_4 =>
     intro wS hSw
     have q0 := cZ hSw hb c0
     clear hSw
     exact fZ
    refine rdH 4 (fun K hK => ?_)
    go_simp
    go_at_call 102
    refine (cF x.kind 1 2 _).mono ?_
    rintro e w1 ⟨rfl, h1⟩
    subst w1
    rw [d1]
    try go_wp2_with fail
    refine hK.out _ _ zq (fun zq => ?_)
    clear hK K
    try simp only [Act.put, pz, py, px]
    refine tkH 5 zq ?_
    refine tkH 6 zq ?_
    refine tkH 7 zq ?_
    refine tkH 8 zq ?_
    refine tkH 9 zq ?_
    refine tkJ 10 (v := ?vc10_10) ?hc10_10 zq ?rc10_10
    case hc10_10 =>
     intro wS hSw
     have q2 := cZ hSw hb c2
     clear hSw
     exact fZ
    refine tkH 11 zq ?_
    refine tkH 12 zq ?_
    refine tkH 13 zq ?_
    refine tkJ 14 (v := ?vc14_14) ?hc14_14 zq ?rc14_14
    case hc14_14 =>
     intro wS hSw
     have q3 := cZ hSw hb c3
     clear hSw
     exact fZ
    refine tkH 15 zq ?_
    refine tkH 16 zq ?_
    refine tkH 17 zq ?_
    refine tkH 18 zq ?_
    refine tkH 19 zq ?_
    refine skH 20 zq ?_
    refine skH 21 zq ?_
    refine tkH 22 zq ?_
    refine tkH 23 zq ?_
    refine dZ ?_
    have HB9 := zq
    clear zq
    have c0 : wD.cell? ⟨b, o, none⟩ = some (.int .i64 x.kind) := (HB9.cell (p := ⟨b, o, none⟩) hb).trans c0
    have c1 : wD.cell? ⟨b, o + 1, none⟩ = some (.int .i64 x.ab) := (HB9.cell (p := ⟨b, o + 1, none⟩) hb).trans c1
    have c2 : wD.cell? ⟨b, o + 2, none⟩ = some (.int .i64 x.src) := (HB9.cell (p := ⟨b, o + 2, none⟩) hb).trans c2
    have c3 : wD.cell? ⟨b, o + 3, none⟩ = some (.int .i64 x.dst) := (HB9.cell (p := ⟨b, o + 3, none⟩) hb).trans c3
    have c4 : wD.cell? ⟨b, o + 4, none⟩ = some (.int .i64 x.index) := (HB9.cell (p := ⟨b, o + 4, none⟩) hb).trans c4
    have c5 : wD.cell? ⟨b, o + 5, none⟩ = some (.int .i64 x.write.kind) := (HB9.cell (p := ⟨b, o + 5, none⟩) hb).trans c5
    have c6 : wD.cell? ⟨b, o + 5 + 1, none⟩ = some (.int .i64 x.write.id) := (HB9.cell (p := ⟨b, o + 5 + 1, none⟩) hb).trans c6
    have c7 : wD.cell? ⟨b, o + 5 + 2, none⟩ = some (.slice a x.write.vec.length d) := (HB9.cell (p := ⟨b, o + 5 + 2, none⟩) hb).trans c7
    have c8 : wD.cell? ⟨b, o + 5 + 3, none⟩ = some (.int .i64 x.write.aa) := (HB9.cell (p := ⟨b, o + 5 + 3, none⟩) hb).trans c8
    have c9 : wD.cell? ⟨b, o + 5 + 4, none⟩ = some (.int .i64 x.write.seq) := (HB9.cell (p := ⟨b, o + 5 + 4, none⟩) hb).trans c9
    have HWD := yh ((uh H).ae HB9)
    replace hb : b < wD.heap.size := Nat.lt_of_lt_of_le hb HB9.size
    replace HB9 := yh HB9
    go_wp2_with fail
    refine (cF x.ab 1 999 wD).mono ?_
    rintro e w1 ⟨rfl, h1⟩
    subst w1
    cases d10 : (decide (1 ≤ x.ab) && decide (x.ab ≤ 999))
    ·
     have HF := yh ((uh HRS).trans (gD d10))
     clear d10
     go_wp2_with fail
     go_ret
     exact ⟨by rw [uh HF]; rfl, uh HB9⟩
    skip
    go_wp2_with fail
    refine (dF x.src wD).mono ?_
    rintro e w1 ⟨rfl, h1⟩
    subst w1
    cases d12 : (decide (1 ≤ x.src) && decide (x.src ≤ 5))
    ·
     have HF := yh ((uh HRS).trans (jO d12))
     clear d12
     go_wp2_with fail
     go_ret
     exact ⟨by rw [uh HF]; rfl, uh HB9⟩
    skip
    go_wp2_with fail
    refine (dF x.dst wD).mono ?_
    rintro e w1 ⟨rfl, h1⟩
    subst w1
    cases d14 : (decide (1 ≤ x.dst) && decide (x.dst ≤ 5))
    ·
     have HF := yh ((uh HRS).trans (jK d14))
     clear d14
     go_wp2_with fail
     go_ret
     exact ⟨by rw [uh HF]; rfl, uh HB9⟩
    skip
    go_wp2_with fail
    refine (cF x.index 0 40 wD).mono ?_
    rintro e w1 ⟨rfl, h1⟩
    subst w1
    cases d16 : (decide (0 ≤ x.index) && decide (x.index ≤ 40))
    ·
     have HF := yh ((uh HRS).trans (gJ d16))
     clear d16
     go_wp2_with fail
     go_ret
     exact ⟨by rw [uh HF]; rfl, uh HB9⟩
    skip
    cases e5 : (x.index == 0)
    ·
     have HF : Hid (ak x = wF x.write) := (uh HRS).trans ((kI d10 d12 d14 d16 (Or.inr e5)).trans (if_neg (by simpa using e2)))
     clear d10 d12 d14 d16
     go_wp2_with fail
     refine (gx b (o + 5) x.write.kind x.write.id _ x.write.aa x.write.seq x.write.vec wD ⟨c5, c6, c7, c8, c9⟩ (ad.bp (uh HWD))).mono ?_
     rintro e w1 ⟨rfl, h1⟩
     subst w1
     go_wp2_with fail
     go_ret
     exact ⟨by rw [uh HF]; rfl, uh HB9⟩
    have HF : Hid (ak x = 3) := (uh HRS).trans (kD e2 e5)
    clear d10 d12 d14 d16
    go_wp2_with fail
    go_ret
    exact ⟨by rw [uh HF]; rfl, uh HB9⟩
   cases e3 : decide (iq x.write)
   ·
    have HF := yh (kV e2 e3)
    go_upto_region 3 with fail
    refine wZz (fun w' => Below wc.heap.size wc w') (Below.refl _ _).drew (fun zq => ?_)
    generalize wc.drew = wD at zq ⊢
    refine tkH 0 zq ?_
    refine tkH 1 zq ?_
    refine tkH 2 zq ?_
    refine tkJ 3 (v := ?vd3_4) ?hd3_4 zq ?rd3_4
    case hd3_4 =>
     intro wS hSw
     have q0 := cZ hSw hb c0
     clear hSw
     exact fZ
    refine rdH 4 (fun K hK => ?_)
    go_simp
    go_at_call 102
    refine (cF x.kind 1 2 _).mono ?_
    rintro e w1 ⟨rfl, h1⟩
    subst w1
    rw [d1]
    try go_wp2_with fail
    refine hK.out _ _ zq (fun zq => ?_)
    clear hK K
    try simp only [Act.put, pz, py, px]
    refine tkH 5 zq ?_
    refine tkH 6 zq ?_
    refine tkH 7 zq ?_
    refine tkH 8 zq ?_
    refine tkH 9 zq ?_
    refine tkJ 10 (v := ?vd10_10) ?hd10_10 zq ?rd10_10
    case hd10_10 =>
     intro wS hSw
     have q2 := cZ hSw hb c2
     clear hSw
     exact fZ
    refine tkH 11 zq ?_
    refine tkH 12 zq ?_
    refine tkH 13 zq ?_
    refine tkJ 14 (v := ?vd14_14) ?hd14_14 zq ?rd14_14
    case hd14_14 =>
     intro wS hSw
     have q3 := cZ hSw hb c3
     clear hSw
     exact fZ
    refine tkH 15 zq ?_
    refine tkH 16 zq ?_
    refine tkH 17 zq ?_
    refine tkH 18 zq ?_
    refine tkH 19 zq ?_
    refine tkH 20 zq ?_
    refine tkH 21 zq ?_
    refine tkH 22 zq ?_
    refine tkH 23 zq ?_
    refine dZ ?_
    have HB9 := yh zq
    clear zq
    go_wp2_with fail
    go_ret
    exact ⟨by rw [uh HF]; rfl, uh HB9⟩
   have HRS := yh (jC d1 e1 e3)
   go_upto_region 3 with fail
   refine wZz (fun w' => Below wc.heap.size wc w') (Below.refl _ _).drew (fun zq => ?_)
   generalize wc.drew = wD at zq ⊢
   refine tkH 0 zq ?_
   refine tkH 1 zq ?_
   refine tkH 2 zq ?_
   refine tkJ 3 (v := ?ve3_4) ?he3_4 zq ?re3_4
   case he3_4 =>
    intro wS hSw
    have q0 := cZ hSw hb c0
    clear hSw
    exact fZ
   refine rdH 4 (fun K hK => ?_)
   go_simp
   go_at_call 102
   refine (cF x.kind 1 2 _).mono ?_
   rintro e w1 ⟨rfl, h1⟩
   subst w1
   rw [d1]
   try go_wp2_with fail
   refine hK.out _ _ zq (fun zq => ?_)
   clear hK K
   try simp only [Act.put, pz, py, px]
   refine tkH 5 zq ?_
   refine tkH 6 zq ?_
   refine tkH 7 zq ?_
   refine tkH 8 zq ?_
   refine tkH 9 zq ?_
   refine tkJ 10 (v := ?ve10_10) ?he10_10 zq ?re10_10
   case he10_10 =>
    intro wS hSw
    have q2 := cZ hSw hb c2
    clear hSw
    exact fZ
   refine tkH 11 zq ?_
   refine tkH 12 zq ?_
   refine tkH 13 zq ?_
   refine tkJ 14 (v := ?ve14_14) ?he14_14 zq ?re14_14
   case he14_14 =>
    intro wS hSw
    have q3 := cZ hSw hb c3
    clear hSw
    exact fZ
   refine tkH 15 zq ?_
   refine tkH 16 zq ?_
   refine tkH 17 zq ?_
   refine tkH 18 zq ?_
   refine tkH 19 zq ?_
   refine tkH 20 zq ?_
   refine tkH 21 zq ?_
   refine tkH 22 zq ?_
   refine tkH 23 zq ?_
   refine dZ ?_
   have HB9 := zq
   clear zq
   have c0 : wD.cell? ⟨b, o, none⟩ = some (.int .i64 x.kind) := (HB9.cell (p := ⟨b, o, none⟩) hb).trans c0
   have c1 : wD.cell? ⟨b, o + 1, none⟩ = some (.int .i64 x.ab) := (HB9.cell (p := ⟨b, o + 1, none⟩) hb).trans c1
   have c2 : wD.cell? ⟨b, o + 2, none⟩ = some (.int .i64 x.src) := (HB9.cell (p := ⟨b, o + 2, none⟩) hb).trans c2
   have c3 : wD.cell? ⟨b, o + 3, none⟩ = some (.int .i64 x.dst) := (HB9.cell (p := ⟨b, o + 3, none⟩) hb).trans c3
   have c4 : wD.cell? ⟨b, o + 4, none⟩ = some (.int .i64 x.index) := (HB9.cell (p := ⟨b, o + 4, none⟩) hb).trans c4
   have c5 : wD.cell? ⟨b, o + 5, none⟩ = some (.int .i64 x.write.kind) := (HB9.cell (p := ⟨b, o + 5, none⟩) hb).trans c5
   have c6 : wD.cell? ⟨b, o + 5 + 1, none⟩ = some (.int .i64 x.write.id) := (HB9.cell (p := ⟨b, o + 5 + 1, none⟩) hb).trans c6
   have c7 : wD.cell? ⟨b, o + 5 + 2, none⟩ = some (.slice a x.write.vec.length d) := (HB9.cell (p := ⟨b, o + 5 + 2, none⟩) hb).trans c7
   have c8 : wD.cell? ⟨b, o + 5 + 3, none⟩ = some (.int .i64 x.write.aa) := (HB9.cell (p := ⟨b, o + 5 + 3, none⟩) hb).trans c8
   have c9 : wD.cell? ⟨b, o + 5 + 4, none⟩ = some (.int .i64 x.write.seq) := (HB9.cell (p := ⟨b, o + 5 + 4, none⟩) hb).trans c9
   have HWD := yh ((uh H).ae HB9)
   replace hb : b < wD.heap.size := Nat.lt_of_lt_of_le hb HB9.size
   replace HB9 := yh HB9
   go_wp2_with fail
   refine (cF x.ab 1 999 wD).mono ?_
   rintro e w1 ⟨rfl, h1⟩
   subst w1
   cases d12 : (decide (1 ≤ x.ab) && decide (x.ab ≤ 999))
   ·
    have HF := yh ((uh HRS).trans (gD d12))
    clear d12
    go_wp2_with fail
    go_ret
    exact ⟨by rw [uh HF]; rfl, uh HB9⟩
   skip
   go_wp2_with fail
   refine (dF x.src wD).mono ?_
   rintro e w1 ⟨rfl, h1⟩
   subst w1
   cases d14 : (decide (1 ≤ x.src) && decide (x.src ≤ 5))
   ·
    have HF := yh ((uh HRS).trans (jO d14))
    clear d14
    go_wp2_with fail
    go_ret
    exact ⟨by rw [uh HF]; rfl, uh HB9⟩
   skip
   go_wp2_with fail
   refine (dF x.dst wD).mono ?_
   rintro e w1 ⟨rfl, h1⟩
   subst w1
   cases d16 : (decide (1 ≤ x.dst) && decide (x.dst ≤ 5))
   ·
    have HF := yh ((uh HRS).trans (jK d16))
    clear d16
    go_wp2_with fail
    go_ret
    exact ⟨by rw [uh HF]; rfl, uh HB9⟩
   skip
   go_wp2_with fail
   refine (cF x.index 0 40 wD).mono ?_
   rintro e w1 ⟨rfl, h1⟩
   subst w1
   cases d18 : (decide (0 ≤ x.index) && decide (x.index ≤ 40))
   ·
    have HF := yh ((uh HRS).trans (gJ d18))
    clear d18
    go_wp2_with fail
    go_ret
    exact ⟨by rw [uh HF]; rfl, uh HB9⟩
   skip
   have HF : Hid (ak x = 0) := (uh HRS).trans ((kI d12 d14 d16 d18 (Or.inl e2)).trans (if_pos (beq_iff_eq.1 e2)))
   clear d12 d14 d16 d18
   go_wp2_with fail
   go_ret
   exact ⟨by rw [uh HF]; rfl, uh HB9⟩
  have HF := yh (km e1)
  go_upto_region 3 with fail
  refine wZz (fun w' => Below wc.heap.size wc w') (Below.refl _ _).drew (fun zq => ?_)
  generalize wc.drew = wD at zq ⊢
  refine tkH 0 zq ?_
  refine tkH 1 zq ?_
  refine tkH 2 zq ?_
  refine tkJ 3 (v := ?vb3_4) ?hb3_4 zq ?rb3_4
  case hb3_4 =>
   intro wS hSw
   have q0 := cZ hSw hb c0
   clear hSw
   exact fZ
  refine rdH 4 (fun K hK => ?_)
  go_simp
  go_at_call 102
  refine (cF x.kind 1 2 _).mono ?_
  rintro e w1 ⟨rfl, h1⟩
  subst w1
  rw [d1]
  try go_wp2_with fail
  refine hK.out _ _ zq (fun zq => ?_)
  clear hK K
  try simp only [Act.put, pz, py, px]
  refine tkH 5 zq ?_
  refine tkH 6 zq ?_
  refine tkH 7 zq ?_
  refine tkH 8 zq ?_
  refine tkH 9 zq ?_
  refine tkJ 10 (v := ?vb10_10) ?hb10_10 zq ?rb10_10
  case hb10_10 =>
   intro wS hSw
   have q2 := cZ hSw hb c2
   clear hSw
   exact fZ
  refine tkH 11 zq ?_
  refine tkH 12 zq ?_
  refine tkH 13 zq ?_
  refine tkJ 14 (v := ?vb14_14) ?hb14_14 zq ?rb14_14
  case hb14_14 =>
   intro wS hSw
   have q3 := cZ hSw hb c3
   clear hSw
   exact fZ
  refine tkH 15 zq ?_
  refine tkH 16 zq ?_
  refine tkH 17 zq ?_
  refine skH 18 zq ?_
  refine skH 19 zq ?_
  refine skH 20 zq ?_
  refine skH 21 zq ?_
  refine skH 22 zq ?_
  refine tkH 23 zq ?_
  refine dZ ?_
  have HB9 := yh zq
  clear zq
  go_wp2_with fail
  go_ret
  exact ⟨by rw [uh HF]; rfl, uh HB9⟩
theorem kp {w : World} {b off cap : Nat} {xs : List bk} (h : (ad.sl ad.bg).Reads w [.slice (some ⟨b, off, none⟩) xs.length cap] xs) {k : Nat} (hk : k < xs.length) : ∃ a d, kL w b (off + k * 10) xs[k] (.slice a xs[k].write.vec.length d) ∧ (ad.sl ad.int).Reads w [.slice a xs[k].write.vec.length d] xs[k].write.vec := by
 obtain ⟨row, hc, hr⟩ := ad.aW h hk
 obtain ⟨a, d, rfl, R⟩ := bz hr
 exact ⟨a, d, ⟨hc 0 (by decide), hc 1 (by decide), hc 2 (by decide), hc 3 (by decide), hc 4 (by decide), hc 5 (by decide), hc 6 (by decide), hc 7 (by decide), hc 8 (by decide), hc 9 (by decide)⟩, jj R⟩
theorem kE {xs : List bk} (h : 40 < xs.length) : aE xs = 2 := by rw [aE, if_pos h]
theorem kX {xs : List bk} (h : ¬ 40 < xs.length) : aE xs = bc xs := by rw [aE, if_neg h]
theorem iZ (v : Value) (xs : List bk) (w : World) (h : (ad.sl ad.bg).Reads w [v] xs) :
  Calls Tryz.prog 149 #[v] w fun e w' => e = .returned (.int .i64 (aE xs)) ∧ Below w.heap.size w w' := by
 obtain ⟨ao, cap, rfl⟩ := aC h
 have hbig := h.cS
 have H := yh h
 clear h
 by_cases h40 : 40 < xs.length
 ·
  have HF := yh (kE h40)
  have hd : decide ((40 : Int) < (xs.length : Int)) = true := by simp; omega
  go_enter Tryz.func149, Tryz.ntmps149
  go_wp2_with fail
  go_ret
  exact ⟨by rw [uh HF]; rfl, Below.refl _ _⟩
 have HF := yh (kX h40)
 have hd : decide ((40 : Int) < (xs.length : Int)) = false := by simp; omega
 go_enter Tryz.func149, Tryz.ntmps149
 go_wp2_with fail
 clear hd
 go_loopw [3] (fun i wr => ∃ k : Nat, k ≤ xs.length ∧ i = .int .i64 k ∧ (∀ j (hj : j < xs.length), j < k → ak xs[j] = 0) ∧ Below w.heap.size w wr) (fun i _ => xs.length - (intOf i).toNat)
 case atStart => exact ⟨0, Nat.zero_le _, rfl, fun j _ hj => by omega, Below.refl _ _⟩
 case round =>
  obtain ⟨k, hk, rfl, hz, hB⟩ := hrel
  by_cases hlt : k < xs.length
  ·
   obtain ⟨b, off, rfl, hbl⟩ := ad.aJ (uh H) (by omega)
   obtain ⟨a, d, hM, R⟩ := kp ((uh H).ae hB) hlt
   have HL := yh (kF b (off + k * 10) a d xs[k] wr hM R)
   have hbr : b < wr.heap.size := Nat.lt_of_lt_of_le hbl hB.size
   have hdl : decide ((k : Int) < (xs.length : Int)) = true := by simp; omega
   have HB := yh hB
   have HAT : Hid (ak xs[k] ≠ 0 → bc xs = ak xs[k]) := fun q => en hlt (fun j hj => hz j (by omega) hj) q
   have HZ2 : Hid (ak xs[k] = 0 → ∀ j (hj : j < xs.length), j < k + 1 → ak xs[j] = 0) := by
    intro h0 j hj hjk
    by_cases hjk2 : j < k
    ·
     exact hz j hj hjk2
    obtain rfl : j = k := by omega
    exact h0
   clear hz hM R hB
   generalize ak xs[k] = f at *
   go_wp2_with fail
   refine (uh HL).mono ?_
   rintro e w2 ⟨rfl, hb⟩
   have HB2 := yh ((uh HB).trans (hb.mono (uh HB).size))
   clear hb HL HB
   by_cases hf : f = 0
   ·
    have HZ3 := yh (uh HZ2 hf)
    subst hf
    clear HZ2 HAT
    go_wp2_with fail
    go_roundw
    case rel => exact ⟨k + 1, by omega, by go_num, uh HZ3, uh HB2⟩
    case measure => simp [intOf]; omega
   have HA := yh ((uh HF).trans (uh HAT hf))
   have hd : (f != 0) = true := by simpa using hf
   clear HZ2 HAT hf
   go_wp2_with fail
   go_ret
   exact ⟨by rw [uh HA]; rfl, uh HB2⟩
  obtain rfl : k = xs.length := by omega
  have hdl : decide ((xs.length : Int) < (xs.length : Int)) = false := by simp
  have HA := yh ((uh HF).trans (dA fun x hx => by obtain ⟨j, hj, rfl⟩ := List.getElem_of_mem hx; exact hz j hj hj))
  have HB := yh hB
  clear hB hz
  go_wp2_with fail
  go_ret
  exact ⟨by rw [uh HA]; rfl, uh HB⟩
theorem iQ (a3 : Option Addr) (d3 : Nat) (a4 : Option Addr) (d4 : Nat) (a5 : Option Addr) (d5 : Nat) (a6 : Option Addr) (d6 : Nat) (x : aX) (xb : Nat) (w : World) (hX : aA 0 #[.int .i64 x.now, .int .i64 x.events, .int .i64 x.chain.ab, .slice a3 x.chain.ids.length d3, .slice a4 x.nodes.length d4, .slice a5 x.msgs.length d5, .slice a6 x.af.length d6] 37 w xb) (h : ad.aZ.Reads w [.int .i64 x.now, .int .i64 x.events, .int .i64 x.chain.ab, .slice a3 x.chain.ids.length d3, .slice a4 x.nodes.length d4, .slice a5 x.msgs.length d5, .slice a6 x.af.length d6] x) :
  Calls Tryz.prog 85 #[.pointer (some ⟨xb, 0, none⟩)] w fun e w' => e = .returned (.int .i64 (ax x)) ∧ Below w.heap.size w w' := by
 have HX := yh hX
 have HR := yh h
 have HB := yh (Below.refl w.heap.size w)
 have HP : Hid (ax x = if (decide (0 ≤ x.now) && decide (x.now ≤ 9000)) = false ∨ (decide (0 ≤ x.events) && decide (x.events ≤ 9999)) = false then 3 else if au x.chain ≠ 0 then au x.chain
  else if x.nodes.length < 1 ∨ 5 < x.nodes.length then 2 else if aO x ≠ 0 then aO x else if aE x.msgs ≠ 0 then aE x.msgs
  else if 60 < x.af.length then 2 else if (x.af.drop 0).all (cT x) = true then 0 else 3) := by
  have e1 : (¬ (0 ≤ x.now ∧ x.now ≤ 9000) ∨ ¬ (0 ≤ x.events ∧ x.events ≤ 9999)) ↔ ((decide (0 ≤ x.now) && decide (x.now ≤ 9000)) = false ∨ (decide (0 ≤ x.events) && decide (x.events ≤ 9999)) = false) := by
   simp only [Bool.and_eq_false_iff, decide_eq_false_iff_not]
   omega
  show ax x = _
  unfold ax
  by_cases h1 : (decide (0 ≤ x.now) && decide (x.now ≤ 9000)) = false ∨ (decide (0 ≤ x.events) && decide (x.events ≤ 9999)) = false
  ·
   rw [if_pos (e1.2 h1), if_pos h1]
  rw [if_neg (fun q => h1 (e1.1 q)), if_neg h1]
  rfl
 clear h hX
 generalize ax x = r at *
 have z0 := aA.at (uh HX) 0 _ rfl
 have z1 := aA.at (uh HX) 1 _ rfl
 have z2 := aA.at (uh HX) 2 _ rfl
 have z3 := aA.at (uh HX) 3 _ rfl
 have z4 := aA.at (uh HX) 4 _ rfl
 have z5 := aA.at (uh HX) 5 _ rfl
 have z6 := aA.at (uh HX) 6 _ rfl
 simp only [ga, gb, gc] at z0 z1 z2 z3 z4 z5 z6
 have xl := (uh HX).lt
 go_enter Tryz.func85, Tryz.ntmps85
 go_wp2_with fail
 refine (cF x.now 0 9000 w).mono ?_
 rintro e w2 ⟨rfl, h2⟩
 subst w2
 cases d1 : (decide (0 ≤ x.now) && decide (x.now ≤ 9000))
 ·
  replace HP := yh ((uh HP).trans (if_pos (Or.inl d1)))
  clear d1
  go_wp2_with fail
  go_ret
  exact ⟨by rw [uh HP]; rfl, uh HB⟩
 go_wp2_with fail
 refine (cF x.events 0 9999 w).mono ?_
 rintro e w2 ⟨rfl, h2⟩
 subst w2
 cases d2 : (decide (0 ≤ x.events) && decide (x.events ≤ 9999))
 ·
  replace HP := yh ((uh HP).trans (if_pos (Or.inr d2)))
  clear d1 d2
  go_wp2_with fail
  go_ret
  exact ⟨by rw [uh HP]; rfl, uh HB⟩
 replace HP := yh ((uh HP).trans (if_neg (by rw [d1, d2]; simp)))
 clear d1 d2
 go_wp2_with fail
 obtain ⟨_, _, _, _, _, _, _, _, hq, RC, -, -, -⟩ := aH (uh HR)
 simp only [List.cons.injEq, Value.slice.injEq, and_true, true_and] at hq
 obtain ⟨⟨rfl, rfl⟩, ⟨rfl, rfl⟩, ⟨rfl, rfl⟩, rfl, rfl⟩ := hq
 obtain ⟨_, _, hq, RI⟩ := br RC
 simp only [List.cons.injEq, Value.slice.injEq, and_true, true_and] at hq
 obtain ⟨rfl, rfl⟩ := hq
 refine (jc xb 2 _ _ x.chain w ⟨(uh HX).at 2 _ rfl, (uh HX).at 3 _ rfl⟩ RI).mono ?_
 rintro e w2 ⟨rfl, h2⟩
 subst w2
 clear RC RI
 by_cases d3 : au x.chain ≠ 0
 ·
  have hd : (au x.chain != 0) = true := by simpa using d3
  replace HP := yh ((uh HP).trans (if_pos d3))
  clear d3
  generalize au x.chain = c at *
  go_wp2_with fail
  go_ret
  exact ⟨by rw [uh HP]; rfl, uh HB⟩
 replace HP := yh ((uh HP).trans (if_neg d3))
 have hd : au x.chain = 0 := by simpa using d3
 clear d3
 rw [hd]
 clear hd
 have hbn := (show x.nodes.length ≤ 9223372036854775807 from by
  obtain ⟨_, _, _, _, _, _, _, _, hq, -, RN, -, -⟩ := aH (uh HR)
  exact RN.cS)
 by_cases d4 : x.nodes.length < 1 ∨ 5 < x.nodes.length
 ·
  replace HP := yh ((uh HP).trans (if_pos d4))
  by_cases d5 : x.nodes.length < 1
  ·
   have hd : decide ((x.nodes.length : Int) < 1) = true := by simp; omega
   clear d4 d5
   go_wp2_with fail
   go_ret
   exact ⟨by rw [uh HP]; rfl, uh HB⟩
  have hd : decide ((x.nodes.length : Int) < 1) = false := by simp; omega
  have hd2 : decide ((5 : Int) < (x.nodes.length : Int)) = true := by simp; omega
  clear d4 d5
  go_wp2_with fail
  go_ret
  exact ⟨by rw [uh HP]; rfl, uh HB⟩
 replace HP := yh ((uh HP).trans (if_neg d4))
 have hd : decide ((x.nodes.length : Int) < 1) = false := by simp; omega
 have hd2 : decide ((5 : Int) < (x.nodes.length : Int)) = false := by simp; omega
 have hn5 : x.nodes.length ≤ 5 := by omega
 clear d4
 go_wp2_with fail
 refine (iU _ _ _ _ _ _ _ _ x xb w (uh HX) (uh HR)).mono ?_
 rintro e w4 ⟨rfl, hb⟩
 clear xl hn5 z0 z1 z2 z3 z4 z5 z6
 replace HX := yh ((uh HX).al hb)
 replace HR := yh ((uh HR).ae hb)
 replace HB := bZ HB hb
 clear hb
 have z0 := aA.at (uh HX) 0 _ rfl
 have z1 := aA.at (uh HX) 1 _ rfl
 have z2 := aA.at (uh HX) 2 _ rfl
 have z3 := aA.at (uh HX) 3 _ rfl
 have z4 := aA.at (uh HX) 4 _ rfl
 have z5 := aA.at (uh HX) 5 _ rfl
 have z6 := aA.at (uh HX) 6 _ rfl
 simp only [ga, gb, gc] at z0 z1 z2 z3 z4 z5 z6
 have xl := (uh HX).lt
 by_cases d3 : aO x ≠ 0
 ·
  have hd : (aO x != 0) = true := by simpa using d3
  replace HP := yh ((uh HP).trans (if_pos d3))
  clear d3
  generalize aO x = c at *
  go_wp2_with fail
  go_ret
  exact ⟨by rw [uh HP]; rfl, uh HB⟩
 replace HP := yh ((uh HP).trans (if_neg d3))
 have hd : aO x = 0 := by simpa using d3
 clear d3
 rw [hd]
 clear hd
 go_wp2_with fail
 obtain ⟨_, _, _, _, _, _, _, _, hq, -, -, RM, -⟩ := aH (uh HR)
 simp only [List.cons.injEq, Value.slice.injEq, and_true, true_and] at hq
 obtain ⟨⟨rfl, rfl⟩, ⟨rfl, rfl⟩, ⟨rfl, rfl⟩, rfl, rfl⟩ := hq
 refine (iZ _ x.msgs w4 RM).mono ?_
 rintro e w5 ⟨rfl, hb⟩
 clear RM xl z0 z1 z2 z3 z4 z5 z6
 replace HX := yh ((uh HX).al hb)
 replace HR := yh ((uh HR).ae hb)
 replace HB := bZ HB hb
 clear hb
 have z0 := aA.at (uh HX) 0 _ rfl
 have z1 := aA.at (uh HX) 1 _ rfl
 have z2 := aA.at (uh HX) 2 _ rfl
 have z3 := aA.at (uh HX) 3 _ rfl
 have z4 := aA.at (uh HX) 4 _ rfl
 have z5 := aA.at (uh HX) 5 _ rfl
 have z6 := aA.at (uh HX) 6 _ rfl
 simp only [ga, gb, gc] at z0 z1 z2 z3 z4 z5 z6
 have xl := (uh HX).lt
 by_cases d3 : aE x.msgs ≠ 0
 ·
  have hd : (aE x.msgs != 0) = true := by simpa using d3
  replace HP := yh ((uh HP).trans (if_pos d3))
  clear d3
  generalize aE x.msgs = c at *
  go_wp2_with fail
  go_ret
  exact ⟨by rw [uh HP]; rfl, uh HB⟩
 replace HP := yh ((uh HP).trans (if_neg d3))
 have hd : aE x.msgs = 0 := by simpa using d3
 clear d3
 rw [hd]
 clear hd
 obtain ⟨_, _, _, _, _, _, _, _, hq, -, -, -, RE⟩ := aH (uh HR)
 simp only [List.cons.injEq, Value.slice.injEq, and_true, true_and] at hq
 obtain ⟨⟨rfl, rfl⟩, ⟨rfl, rfl⟩, ⟨rfl, rfl⟩, rfl, rfl⟩ := hq
 have HE := yh RE
 have hbig := RE.cS
 clear RE
 by_cases d4 : 60 < x.af.length
 ·
  replace HP := yh ((uh HP).trans (if_pos d4))
  have hd : decide ((60 : Int) < (x.af.length : Int)) = true := by simp; omega
  clear d4
  go_wp2_with fail
  go_ret
  exact ⟨by rw [uh HP]; rfl, uh HB⟩
 replace HP := yh ((uh HP).trans (if_neg d4))
 have hd : decide ((60 : Int) < (x.af.length : Int)) = false := by simp; omega
 clear d4
 go_wp2_with fail
 clear z0 z1 z2 z3 z4 z5 z6 xl hd
 go_loopw [6] (fun i wr => ∃ k : Nat, k ≤ x.af.length ∧ i = .int .i64 k ∧ r = (if (x.af.drop k).all (cT x) = true then 0 else 3) ∧ Below w5.heap.size w5 wr) (fun i _ => x.af.length - (intOf i).toNat)
 case atStart => exact ⟨0, Nat.zero_le _, rfl, uh HP, Below.refl _ _⟩
 case round =>
  obtain ⟨k, hk, rfl, hF, hB⟩ := hrel
  clear HP
  have hX2 := (uh HX).al hB
  have y6 := aA.at hX2 6 _ rfl
  simp only [ga, gb, gc] at y6
  have xl := hX2.lt
  have HB3 := yh ((uh HB).trans (hB.mono (uh HB).size))
  by_cases hlt : k < x.af.length
  ·
   obtain ⟨b, off, rfl, hbl⟩ := ad.aJ (uh HE) (by omega)
   obtain ⟨row, hcl, hr⟩ := ad.aW (uh HE) hlt
   rw [List.drop_eq_getElem_cons hlt, List.all_cons] at hF
   have hdl : decide ((k : Int) < (x.af.length : Int)) = true := by simp; omega
   have hrl := hr.len
   obtain ⟨aq, dq, av, dv, ah, dh, rfl, -⟩ := a0 hr
   have hE : cg #[.int .i64 (x.af[k]).kind, .int .i64 (x.af[k]).aa, .int .i64 (x.af[k]).seq, .int .i64 (x.af[k]).id, .slice aq (x.af[k]).query.length dq, .int .i64 (x.af[k]).k, .int .i64 (x.af[k]).start, .int .i64 (x.af[k]).fin, .int .i64 (x.af[k]).place, .slice av (x.af[k]).vec.length dv, .slice ah (x.af[k]).aQ.length dh] wr b (off + k * 11) := cg.ofRow (A := ad.aI) (k := k) (fun m hm => (hB.cell (p := ⟨b, off + k * 11 + m, none⟩) hbl).trans (hcl m hm)) hrl (Nat.lt_of_lt_of_le hbl hB.size)
   have HL := yh (jd _ _ _ _ _ _ _ _ _ _ _ _ _ _ x _ xb b (off + k * 11) wr hX2 hE)
   have HF := yh hF
   have HBQ := yh hB
   clear hF hX2 hB hr hrl hcl hE
   generalize x.af[k] = z at *
   go_wp2_with fail
   refine (uh HL).mono ?_
   rintro e w5 ⟨rfl, hb⟩
   replace HB3 := bZ HB3 hb
   replace HBQ := bZ HBQ hb
   clear HL hb y6
   generalize cT x z = q at *
   cases q
   ·
    replace HF := yh ((uh HF).trans (if_neg (by simp)))
    go_wp2_with fail
    go_ret
    exact ⟨by rw [uh HF]; rfl, uh HB3⟩
   rw [Bool.true_and] at HF
   go_wp2_with fail
   go_roundw
   case rel => exact ⟨k + 1, by omega, by go_num, uh HF, uh HBQ⟩
   case measure => simp [intOf]; omega
  obtain rfl : k = x.af.length := by omega
  rw [List.drop_length, List.all_nil, if_pos rfl] at hF
  have hdl : decide ((x.af.length : Int) < (x.af.length : Int)) = false := by simp
  have HF := yh hF
  clear hF hB hX2
  go_wp2_with fail
  go_ret
  exact ⟨by rw [uh HF]; rfl, uh HB3⟩
theorem ic (cs : List Value) (x : aX) (w : World) (h : ad.aZ.Reads w cs x) :
  Calls Tryz.prog 36 #[.agg cs.toArray] w fun e w' => ∃ cs', e = .returned (.agg cs'.toArray) ∧ ad.bJ.Reads w' cs' (cM x) ∧ Below w.heap.size w w' := by
 have HP : Hid (cM x = if ax x ≠ 0 then ⟨ax x, 0⟩ else ⟨0, ((bQ x.af : Nat) : Int)⟩) := rfl
 obtain ⟨a3, d3, a4, d4, a5, d5, a6, d6, rfl, -, -, -, -⟩ := aH h
 have nb : Below w.heap.size w ((w.alloc (.cells #[.int .i64 x.now, .int .i64 x.events, .int .i64 x.chain.ab, .slice a3 x.chain.ids.length d3, .slice a4 x.nodes.length d4, .slice a5 x.msgs.length d5, .slice a6 x.af.length d6] 37)).alloc (.cells #[.int .i64 0, .int .i64 0] 60)) := ((Below.refl _ _).alloc (Nat.le_refl _) _).alloc (by simp) _
 have HX : Hid (aA 0 #[.int .i64 x.now, .int .i64 x.events, .int .i64 x.chain.ab, .slice a3 x.chain.ids.length d3, .slice a4 x.nodes.length d4, .slice a5 x.msgs.length d5, .slice a6 x.af.length d6] 37 ((w.alloc (.cells #[.int .i64 x.now, .int .i64 x.events, .int .i64 x.chain.ab, .slice a3 x.chain.ids.length d3, .slice a4 x.nodes.length d4, .slice a5 x.msgs.length d5, .slice a6 x.af.length d6] 37)).alloc (.cells #[.int .i64 0, .int .i64 0] 60)) w.heap.size) := (aM (Nat.zero_le _)).grow _
 have HY : Hid (aA 0 #[.int .i64 0, .int .i64 0] 60 ((w.alloc (.cells #[.int .i64 x.now, .int .i64 x.events, .int .i64 x.chain.ab, .slice a3 x.chain.ids.length d3, .slice a4 x.nodes.length d4, .slice a5 x.msgs.length d5, .slice a6 x.af.length d6] 37)).alloc (.cells #[.int .i64 0, .int .i64 0] 60)) (w.heap.size + 1)) := aT (Nat.zero_le _) (by simp)
 have hz0 : ((w.alloc (.cells #[.int .i64 x.now, .int .i64 x.events, .int .i64 x.chain.ab, .slice a3 x.chain.ids.length d3, .slice a4 x.nodes.length d4, .slice a5 x.msgs.length d5, .slice a6 x.af.length d6] 37)).alloc (.cells #[.int .i64 0, .int .i64 0] 60)).heap.size = w.heap.size + 2 := by simp
 have HR := yh (h.ae nb)
 have HB := yh nb
 clear nb h
 generalize cM x = R at *
 go_enter Tryz.func36, Tryz.ntmps36
 go_upto_region 1 with fail
 generalize ((w.alloc (.cells #[.int .i64 x.now, .int .i64 x.events, .int .i64 x.chain.ab, .slice a3 x.chain.ids.length d3, .slice a4 x.nodes.length d4, .slice a5 x.msgs.length d5, .slice a6 x.af.length d6] 37)).alloc (.cells #[.int .i64 0, .int .i64 0] 60)) = W0 at *
 go_wp2_with fail
 refine (iQ a3 d3 a4 d4 a5 d5 a6 d6 x w.heap.size W0 (uh HX) (uh HR)).mono ?_
 rintro e wa ⟨rfl, hb⟩
 replace HX := yh ((uh HX).al hb)
 replace HR := yh ((uh HR).ae hb)
 replace HY := yh ((uh HY).al hb)
 replace HB := bZ HB hb
 have hza := hb.size
 clear hb
 by_cases d1 : ax x ≠ 0
 ·
  have hd : (ax x != 0) = true := by simpa using d1
  replace HP := yh ((uh HP).trans (if_pos d1))
  have HC := yh (iI x)
  clear d1
  generalize ax x = c at *
  have r0 := aA.at (uh HY) 0 _ rfl
  have r1 := aA.at (uh HY) 1 _ rfl
  simp only [ga, gb, gc] at r0 r1
  have rf := aA.soft (uh HY)
  have rl := (uh HY).lt
  have HB9 := yh (((uh HB).setCell (p := ⟨w.heap.size + 1, 0, none⟩) (by simp) (.int .i64 c)).setCell (p := ⟨w.heap.size + 1, 1, none⟩) (by simp) (.int .i64 0))
  clear HX HR HY HB
  go_wp2_with fail
  refine bodyPost_ret (v := .agg #[.int .i64 c, .int .i64 0]) (by simp [results, Tryz.results36, go_sem, r0, r1]) rfl ?_
  rw [uh HP]
  exact ⟨[.int .i64 c, .int .i64 0], rfl, (de (lo := 0) (hi := 0) (bY (by have := uh HC; omega)) (by decide)).reads, uh HB9⟩
 replace HP := yh ((uh HP).trans (if_neg d1))
 have hok := cR (by simpa using d1 : ax x = 0)
 rw [show ax x = 0 by simpa using d1]
 obtain ⟨_, _, _, _, _, _, _, _, hq, -, -, -, RE⟩ := aH (uh HR)
 simp only [List.cons.injEq, Value.slice.injEq, and_true, true_and] at hq
 obtain ⟨-, -, -, ⟨rfl, rfl⟩⟩ := hq
 have H := yh RE
 have z6 := aA.at (uh HX) 6 _ rfl
 simp only [ga, gb, gc] at z6
 have zl := (uh HX).lt
 have hfew := hok.few
 clear RE HX HR hok d1
 generalize x.af = xs at *
 go_wp2_with fail
 go_loop [4, 5] (fun n i => ∃ k : Nat, k ≤ xs.length ∧ i = .int .i64 k ∧ n = .int .i64 (bQ (xs.take k) : Nat)) (fun _ i => xs.length - (intOf i).toNat)
 case atStart => exact ⟨0, Nat.zero_le _, rfl, rfl⟩
 case round =>
  obtain ⟨k, hk, rfl, rfl⟩ := hrel
  by_cases hlt : k < xs.length
  ·
   obtain ⟨b, off, rfl, hbl⟩ := ad.aJ (uh H) (by omega)
   obtain ⟨row, hcl, hr⟩ := ad.aW (uh H) hlt
   have HN := yh (eI hlt)
   have HLE := yh (dG (xs.take (k + 1)))
   have hdl : decide ((k : Int) < (xs.length : Int)) = true := by simp; omega
   obtain ⟨aq, dq, av, dv, ah, dh, rfl, -⟩ := a0 hr
   have c7 : wa.cell? ⟨b, off + k * 11 + 7, none⟩ = some (.int .i64 (xs[k]).fin) := hcl 7 (by decide)
   clear hr hcl
   generalize hx : xs[k] = x at *
   clear hx
   generalize bQ (xs.take k) = n at *
   have hn : n ≤ 60 := by have := uh HLE; have := uh HN; rw [List.length_take] at *; omega
   have hwk : IntKind.i64.wrap ((k : Int) + 1) = (k : Int) + 1 := by rw [IntKind.wrap_i64]; omega
   cases hf : (x.fin != 0)
   ·
    have hn1 : bQ (xs.take (k + 1)) = n := by rw [uh HN, hf]; rfl
    clear HN
    go_wp2_with fail
    go_round
    case rel => exact ⟨k + 1, by omega, by go_num, by rw [hn1]⟩
    case measure => simp [intOf]; omega
   have hn1 : bQ (xs.take (k + 1)) = n + 1 := by rw [uh HN, hf]; rfl
   clear HN
   have hw1 : IntKind.i64.wrap ((n : Int) + 1) = (n : Int) + 1 := by rw [IntKind.wrap_i64]; omega
   go_wp2_with fail
   go_round
   case rel => exact ⟨k + 1, by omega, by go_num, by rw [hn1]; go_num⟩
   case measure => simp [intOf]; omega
  obtain rfl : k = xs.length := by omega
  rw [List.take_length] at *
  have hdl : decide ((xs.length : Int) < (xs.length : Int)) = false := by simp
  have HN : Hid (bQ xs ≤ 60) := by have := dG xs; show bQ xs ≤ 60; omega
  generalize bQ xs = n at *
  have r0 := aA.at (uh HY) 0 _ rfl
  have r1 := aA.at (uh HY) 1 _ rfl
  simp only [ga, gb, gc] at r0 r1
  have rf := aA.soft (uh HY)
  have rl := (uh HY).lt
  have HB9 := yh (((uh HB).setCell (p := ⟨w.heap.size + 1, 0, none⟩) (by simp) (.int .i64 0)).setCell (p := ⟨w.heap.size + 1, 1, none⟩) (by simp) (.int .i64 (n : Int)))
  clear HY HB
  go_wp2_with fail
  refine bodyPost_ret (v := .agg #[.int .i64 0, .int .i64 (n : Int)]) (by simp [results, Tryz.results36, go_sem, r0, r1]) rfl ?_
  rw [uh HP]
  exact ⟨[.int .i64 0, .int .i64 (n : Int)], rfl, (de (lo := 0) (hi := 0) (by decide) (bY (by have := uh HN; omega))).reads, uh HB9⟩
theorem kl (cs : List Value) (x : bx) (w : World) (h : ad.aI.Reads w cs x) :
  Calls Tryz.prog 94 #[.agg cs.toArray] w fun e w' => e = .returned (.bool (x.fin != 0)) ∧ Below w.heap.size w w' := by
 obtain ⟨aq, dq, av, dv, ah, dh, rfl, -, -, -⟩ := a0 h
 have nb : Below w.heap.size w (w.alloc (.cells #[.int .i64 x.kind, .int .i64 x.aa, .int .i64 x.seq, .int .i64 x.id, .slice aq x.query.length dq, .int .i64 x.k, .int .i64 x.start, .int .i64 x.fin, .int .i64 x.place, .slice av x.vec.length dv, .slice ah x.aQ.length dh] 85)) := (Below.refl _ _).alloc (Nat.le_refl _) _
 have bX : aA 0 #[.int .i64 x.kind, .int .i64 x.aa, .int .i64 x.seq, .int .i64 x.id, .slice aq x.query.length dq, .int .i64 x.k, .int .i64 x.start, .int .i64 x.fin, .int .i64 x.place, .slice av x.vec.length dv, .slice ah x.aQ.length dh] 85 (w.alloc (.cells #[.int .i64 x.kind, .int .i64 x.aa, .int .i64 x.seq, .int .i64 x.id, .slice aq x.query.length dq, .int .i64 x.k, .int .i64 x.start, .int .i64 x.fin, .int .i64 x.place, .slice av x.vec.length dv, .slice ah x.aQ.length dh] 85)) w.heap.size := aM (Nat.zero_le _)
 have z7 := aA.at bX 7 _ rfl
 simp only [ga, gb, gc] at z7
 have HB := yh nb
 clear nb bX h
 go_enter Tryz.func94, Tryz.ntmps94
 go_wp2_with fail
 go_ret
 exact ⟨rfl, uh HB⟩
theorem ij (cs : List Value) (x : aX) (w : World) (h : ad.aZ.Reads w cs x) :
  Calls Tryz.prog 37 #[.agg cs.toArray] w fun e w' => ∃ cs', e = .returned (.agg cs'.toArray) ∧ ad.bJ.aU w' cs' (cM x) w.heap.size w'.heap.size ∧ Below w.heap.size w w' := by
 have HP : Hid (cM x = if ax x ≠ 0 then ⟨ax x, 0⟩ else ⟨0, ((bQ x.af : Nat) : Int)⟩) := rfl
 obtain ⟨a3, d3, a4, d4, a5, d5, a6, d6, rfl, -, -, -, -⟩ := aH h
 have nb : Below w.heap.size w ((w.alloc (.cells #[.int .i64 x.now, .int .i64 x.events, .int .i64 x.chain.ab, .slice a3 x.chain.ids.length d3, .slice a4 x.nodes.length d4, .slice a5 x.msgs.length d5, .slice a6 x.af.length d6] 37)).alloc (.cells #[.int .i64 0, .int .i64 0] 60)) := ((Below.refl _ _).alloc (Nat.le_refl _) _).alloc (by simp) _
 have HX : Hid (aA 0 #[.int .i64 x.now, .int .i64 x.events, .int .i64 x.chain.ab, .slice a3 x.chain.ids.length d3, .slice a4 x.nodes.length d4, .slice a5 x.msgs.length d5, .slice a6 x.af.length d6] 37 ((w.alloc (.cells #[.int .i64 x.now, .int .i64 x.events, .int .i64 x.chain.ab, .slice a3 x.chain.ids.length d3, .slice a4 x.nodes.length d4, .slice a5 x.msgs.length d5, .slice a6 x.af.length d6] 37)).alloc (.cells #[.int .i64 0, .int .i64 0] 60)) w.heap.size) := (aM (Nat.zero_le _)).grow _
 have HY : Hid (aA 0 #[.int .i64 0, .int .i64 0] 60 ((w.alloc (.cells #[.int .i64 x.now, .int .i64 x.events, .int .i64 x.chain.ab, .slice a3 x.chain.ids.length d3, .slice a4 x.nodes.length d4, .slice a5 x.msgs.length d5, .slice a6 x.af.length d6] 37)).alloc (.cells #[.int .i64 0, .int .i64 0] 60)) (w.heap.size + 1)) := aT (Nat.zero_le _) (by simp)
 have hz0 : ((w.alloc (.cells #[.int .i64 x.now, .int .i64 x.events, .int .i64 x.chain.ab, .slice a3 x.chain.ids.length d3, .slice a4 x.nodes.length d4, .slice a5 x.msgs.length d5, .slice a6 x.af.length d6] 37)).alloc (.cells #[.int .i64 0, .int .i64 0] 60)).heap.size = w.heap.size + 2 := by simp
 have HR := yh (h.ae nb)
 have HB := yh nb
 clear nb h
 generalize cM x = R at *
 go_enter Tryz.func37, Tryz.ntmps37
 go_upto_region 1 with fail
 generalize ((w.alloc (.cells #[.int .i64 x.now, .int .i64 x.events, .int .i64 x.chain.ab, .slice a3 x.chain.ids.length d3, .slice a4 x.nodes.length d4, .slice a5 x.msgs.length d5, .slice a6 x.af.length d6] 37)).alloc (.cells #[.int .i64 0, .int .i64 0] 60)) = W0 at *
 have z0 := aA.at (uh HX) 0 _ rfl
 have z1 := aA.at (uh HX) 1 _ rfl
 have z2 := aA.at (uh HX) 2 _ rfl
 have z3 := aA.at (uh HX) 3 _ rfl
 have z4 := aA.at (uh HX) 4 _ rfl
 have z5 := aA.at (uh HX) 5 _ rfl
 have z6 := aA.at (uh HX) 6 _ rfl
 simp only [ga, gb, gc] at z0 z1 z2 z3 z4 z5 z6
 have zl := (uh HX).lt
 go_wp2_with fail
 refine (eG _ x W0 (uh HR)).mono ?_
 rintro e wa ⟨rfl, hb⟩
 clear z0 z1 z2 z3 z4 z5 z6 zl
 replace HX := yh ((uh HX).al hb)
 replace HR := yh ((uh HR).ae hb)
 replace HY := yh ((uh HY).al hb)
 replace HB := bZ HB hb
 have hza := hb.size
 clear hb
 by_cases d1 : ax x ≠ 0
 ·
  have hd : (ax x != 0) = true := by simpa using d1
  replace HP := yh ((uh HP).trans (if_pos d1))
  have HC := yh (iI x)
  clear d1
  generalize ax x = c at *
  have r0 := aA.at (uh HY) 0 _ rfl
  have r1 := aA.at (uh HY) 1 _ rfl
  simp only [ga, gb, gc] at r0 r1
  have rf := aA.soft (uh HY)
  have rl := (uh HY).lt
  have HB9 := yh (((uh HB).setCell (p := ⟨w.heap.size + 1, 0, none⟩) (by simp) (.int .i64 c)).setCell (p := ⟨w.heap.size + 1, 1, none⟩) (by simp) (.int .i64 0))
  clear HX HR HY HB
  go_wp2_with fail
  refine bodyPost_ret (v := .agg #[.int .i64 c, .int .i64 0]) (by simp [results, Tryz.results37, go_sem, r0, r1]) rfl ?_
  rw [uh HP]
  exact ⟨[.int .i64 c, .int .i64 0], rfl, de (bY (by have := uh HC; omega)) (by decide), uh HB9⟩
 replace HP := yh ((uh HP).trans (if_neg d1))
 have hok := cR (by simpa using d1 : ax x = 0)
 rw [show ax x = 0 by simpa using d1]
 obtain ⟨_, _, _, _, _, _, _, _, hq, -, -, -, RE⟩ := aH (uh HR)
 simp only [List.cons.injEq, Value.slice.injEq, and_true, true_and] at hq
 obtain ⟨-, -, -, ⟨rfl, rfl⟩⟩ := hq
 have H := yh RE
 have z6 := aA.at (uh HX) 6 _ rfl
 simp only [ga, gb, gc] at z6
 have zl := (uh HX).lt
 have hfew := hok.few
 clear RE HX HR hok d1
 generalize x.af = xs at *
 go_wp2_with fail
 go_loopw [4, 16] (fun n i wr => ∃ k : Nat, k ≤ xs.length ∧ i = .int .i64 k ∧ n = .int .i64 (bQ (xs.take k) : Nat) ∧ Below wa.heap.size wa wr) (fun _ i _ => xs.length - (intOf i).toNat)
 case atStart => exact ⟨0, Nat.zero_le _, rfl, rfl, Below.refl _ _⟩
 case round =>
  obtain ⟨k, hk, rfl, rfl, hE⟩ := hrel
  by_cases hlt : k < xs.length
  ·
   obtain ⟨b, off, rfl, hbl⟩ := ad.aJ (uh H) (by omega)
   obtain ⟨row, hcl, hr⟩ := ad.aW (uh H) hlt
   replace hr := hr.ae hE
   have HN := yh (eI hlt)
   have HLE := yh (dG (xs.take (k + 1)))
   have hdl : decide ((k : Int) < (xs.length : Int)) = true := by simp; omega
   obtain ⟨aq, dq, av, dv, ah, dh, rfl, -⟩ := a0 hr
   have c0 : wr.cell? ⟨b, off + k * 11, none⟩ = some (.int .i64 (xs[k]).kind) := (hE.cell (p := ⟨b, off + k * 11, none⟩) hbl).trans (hcl 0 (by decide))
   have c1 : wr.cell? ⟨b, off + k * 11 + 1, none⟩ = some (.int .i64 (xs[k]).aa) := (hE.cell (p := ⟨b, off + k * 11 + 1, none⟩) hbl).trans (hcl 1 (by decide))
   have c2 : wr.cell? ⟨b, off + k * 11 + 2, none⟩ = some (.int .i64 (xs[k]).seq) := (hE.cell (p := ⟨b, off + k * 11 + 2, none⟩) hbl).trans (hcl 2 (by decide))
   have c3 : wr.cell? ⟨b, off + k * 11 + 3, none⟩ = some (.int .i64 (xs[k]).id) := (hE.cell (p := ⟨b, off + k * 11 + 3, none⟩) hbl).trans (hcl 3 (by decide))
   have c4 : wr.cell? ⟨b, off + k * 11 + 4, none⟩ = some (.slice aq (xs[k]).query.length dq) := (hE.cell (p := ⟨b, off + k * 11 + 4, none⟩) hbl).trans (hcl 4 (by decide))
   have c5 : wr.cell? ⟨b, off + k * 11 + 5, none⟩ = some (.int .i64 (xs[k]).k) := (hE.cell (p := ⟨b, off + k * 11 + 5, none⟩) hbl).trans (hcl 5 (by decide))
   have c6 : wr.cell? ⟨b, off + k * 11 + 6, none⟩ = some (.int .i64 (xs[k]).start) := (hE.cell (p := ⟨b, off + k * 11 + 6, none⟩) hbl).trans (hcl 6 (by decide))
   have c7 : wr.cell? ⟨b, off + k * 11 + 7, none⟩ = some (.int .i64 (xs[k]).fin) := (hE.cell (p := ⟨b, off + k * 11 + 7, none⟩) hbl).trans (hcl 7 (by decide))
   have c8 : wr.cell? ⟨b, off + k * 11 + 8, none⟩ = some (.int .i64 (xs[k]).place) := (hE.cell (p := ⟨b, off + k * 11 + 8, none⟩) hbl).trans (hcl 8 (by decide))
   have c9 : wr.cell? ⟨b, off + k * 11 + 9, none⟩ = some (.slice av (xs[k]).vec.length dv) := (hE.cell (p := ⟨b, off + k * 11 + 9, none⟩) hbl).trans (hcl 9 (by decide))
   have c10 : wr.cell? ⟨b, off + k * 11 + 10, none⟩ = some (.slice ah (xs[k]).aQ.length dh) := (hE.cell (p := ⟨b, off + k * 11 + 10, none⟩) hbl).trans (hcl 10 (by decide))
   have HR := yh hr
   have HE := yh hE
   clear hr hE hcl
   generalize hx : xs[k] = x at *
   clear hx
   generalize bQ (xs.take k) = n at *
   have hn : n ≤ 60 := by have := uh HLE; have := uh HN; rw [List.length_take] at *; omega
   have nb : Below wr.heap.size wr (wr.alloc (.cells #[.int .i64 x.kind, .int .i64 x.aa, .int .i64 x.seq, .int .i64 x.id, .slice aq x.query.length dq, .int .i64 x.k, .int .i64 x.start, .int .i64 x.fin, .int .i64 x.place, .slice av x.vec.length dv, .slice ah x.aQ.length dh] 85)) := (Below.refl _ _).alloc (Nat.le_refl _) _
   have HL := yh (kl _ x _ ((uh HR).ae nb))
   replace HE := yh ((uh HE).trans (nb.mono (uh HE).size))
   clear nb
   go_wp2_with fail
   refine (uh HL).mono ?_
   generalize wr.alloc (.cells #[.int .i64 x.kind, .int .i64 x.aa, .int .i64 x.seq, .int .i64 x.id, .slice aq x.query.length dq, .int .i64 x.k, .int .i64 x.start, .int .i64 x.fin, .int .i64 x.place, .slice av x.vec.length dv, .slice ah x.aQ.length dh] 85) = W1 at *
   rintro e W2 ⟨rfl, hb⟩
   replace HE := yh ((uh HE).trans (hb.mono (uh HE).size))
   clear hb HL c0 c1 c2 c3 c4 c5 c6 c7 c8 c9 c10
   cases hf : (x.fin != 0)
   ·
    have hn1 : bQ (xs.take (k + 1)) = n := by rw [uh HN, hf]; rfl
    clear hf HN
    go_wp2_with fail
    go_roundw
    case rel => exact ⟨k + 1, by omega, by go_num, by rw [hn1], uh HE⟩
    case measure => simp [intOf]; omega
   have hn1 : bQ (xs.take (k + 1)) = n + 1 := by rw [uh HN, hf]; rfl
   clear hf HN
   have hw1 : IntKind.i64.wrap ((n : Int) + 1) = (n : Int) + 1 := by rw [IntKind.wrap_i64]; omega
   go_wp2_with fail
   go_roundw
   case rel => exact ⟨k + 1, by omega, by go_num, by rw [hn1]; go_num, uh HE⟩
   case measure => simp [intOf]; omega
  obtain rfl : k = xs.length := by omega
  rw [List.take_length] at *
  have hdl : decide ((xs.length : Int) < (xs.length : Int)) = false := by simp
  replace HY := yh ((uh HY).al hE)
  replace HB := bZ HB hE
  have HN : Hid (bQ xs ≤ 60) := by have := dG xs; show bQ xs ≤ 60; omega
  clear hE
  generalize bQ xs = n at *
  have r0 := aA.at (uh HY) 0 _ rfl
  have r1 := aA.at (uh HY) 1 _ rfl
  simp only [ga, gb, gc] at r0 r1
  have rf := aA.soft (uh HY)
  have rl := (uh HY).lt
  have HB9 := yh (((uh HB).setCell (p := ⟨w.heap.size + 1, 0, none⟩) (by simp) (.int .i64 0)).setCell (p := ⟨w.heap.size + 1, 1, none⟩) (by simp) (.int .i64 (n : Int)))
  clear HY HB
  go_wp2_with fail
  refine bodyPost_ret (v := .agg #[.int .i64 0, .int .i64 (n : Int)]) (by simp [results, Tryz.results37, go_sem, r0, r1]) rfl ?_
  rw [uh HP]
  exact ⟨[.int .i64 0, .int .i64 (n : Int)], rfl, de (by decide) (bY (by have := uh HN; omega)), uh HB9⟩
theorem jo (cs : List Value) (x : aX) (w : World) (h : ad.aZ.Reads w cs x) :
  Calls Tryz.prog 9 #[.agg cs.toArray] w fun e w' => e = .returned (.bool true) ∧ Below w.heap.size w w' := by
 by_cases hn : ad.aZ.sz x ≤ 1048576
 ·
  exact gE cs x (cM x) w h hn (fun W a ha => ic a x W ha) (fun W a ha => ij a x W ha)
 exact eJ cs x w h (by omega)
theorem fY : cQ ad.aV 24 := by
 intro H enc W base spare held fuel cs x h
 obtain ⟨xs, n, _, _, hlen, hl, hfi⟩ := DataW.trod_struct Tryz.underlying24 h
 rw [show Tryz.prog.cellsOf 24 = 2 by kernel_rfl] at hlen
 match cs, hlen with
 | [c0, c1], _ =>
 match xs, hl with
 | [y0, y1], _ =>
 have z0 : Tryz.prog.cellsOf 2 = 1 := by kernel_rfl
 have z1 : Tryz.prog.cellsOf 22 = 1 := by kernel_rfl
 have f0 : DataW.trod enc Tryz.prog W base spare held n 2 (([c0, c1].drop 0).take (Tryz.prog.cellsOf 2)) = some y0 := hfi 0 _ rfl
 rw [z0] at f0
 obtain ⟨d0, r0⟩ := (aF Tryz.underlying2) enc W base spare held n _ _ f0
 have f1 : DataW.trod enc Tryz.prog W base spare held n 22 (([c0, c1].drop 1).take (Tryz.prog.cellsOf 22)) = some y1 := hfi 1 _ rfl
 rw [z1] at f1
 obtain ⟨d1, r1⟩ := (cb Tryz.underlying22 (by kernel_rfl) (by decide) (aF Tryz.underlying2)) enc W base spare held n _ _ f1
 exact ⟨⟨d0, d1⟩, (ay r0 r1)⟩
theorem dU : cQ ad.ag 132 := by
 intro H enc W base spare held fuel cs x h
 obtain ⟨xs, n, _, _, hlen, hl, hfi⟩ := DataW.trod_struct Tryz.underlying132 h
 rw [show Tryz.prog.cellsOf 132 = 5 by kernel_rfl] at hlen
 match cs, hlen with
 | [c0, c1, c2, c3, c4], _ =>
 match xs, hl with
 | [y0, y1, y2, y3, y4], _ =>
 have z0 : Tryz.prog.cellsOf 2 = 1 := by kernel_rfl
 have z1 : Tryz.prog.cellsOf 22 = 1 := by kernel_rfl
 have f0 : DataW.trod enc Tryz.prog W base spare held n 2 (([c0, c1, c2, c3, c4].drop 0).take (Tryz.prog.cellsOf 2)) = some y0 := hfi 0 _ rfl
 rw [z0] at f0
 obtain ⟨d0, r0⟩ := (aF Tryz.underlying2) enc W base spare held n _ _ f0
 have f1 : DataW.trod enc Tryz.prog W base spare held n 2 (([c0, c1, c2, c3, c4].drop 1).take (Tryz.prog.cellsOf 2)) = some y1 := hfi 1 _ rfl
 rw [z0] at f1
 obtain ⟨d1, r1⟩ := (aF Tryz.underlying2) enc W base spare held n _ _ f1
 have f2 : DataW.trod enc Tryz.prog W base spare held n 22 (([c0, c1, c2, c3, c4].drop 2).take (Tryz.prog.cellsOf 22)) = some y2 := hfi 2 _ rfl
 rw [z1] at f2
 obtain ⟨d2, r2⟩ := (cb Tryz.underlying22 (by kernel_rfl) (by decide) (aF Tryz.underlying2)) enc W base spare held n _ _ f2
 have f3 : DataW.trod enc Tryz.prog W base spare held n 2 (([c0, c1, c2, c3, c4].drop 3).take (Tryz.prog.cellsOf 2)) = some y3 := hfi 3 _ rfl
 rw [z0] at f3
 obtain ⟨d3, r3⟩ := (aF Tryz.underlying2) enc W base spare held n _ _ f3
 have f4 : DataW.trod enc Tryz.prog W base spare held n 2 (([c0, c1, c2, c3, c4].drop 4).take (Tryz.prog.cellsOf 2)) = some y4 := hfi 4 _ rfl
 rw [z0] at f4
 obtain ⟨d4, r4⟩ := (aF Tryz.underlying2) enc W base spare held n _ _ f4
 exact ⟨⟨d0, d1, d2, d3, d4⟩, (ay r0 (ay r1 (ay r2 (ay r3 r4))))⟩
theorem iA : cQ ad.aN 129 := by
 intro H enc W base spare held fuel cs x h
 obtain ⟨xs, n, _, _, hlen, hl, hfi⟩ := DataW.trod_struct Tryz.underlying129 h
 rw [show Tryz.prog.cellsOf 129 = 7 by kernel_rfl] at hlen
 match cs, hlen with
 | [c0, c1, c2, c3, c4, c5, c6], _ =>
 match xs, hl with
 | [y0, y1, y2, y3, y4, y5, y6], _ =>
 have z0 : Tryz.prog.cellsOf 2 = 1 := by kernel_rfl
 have z1 : Tryz.prog.cellsOf 4 = 1 := by kernel_rfl
 have z2 : Tryz.prog.cellsOf 127 = 1 := by kernel_rfl
 have f0 : DataW.trod enc Tryz.prog W base spare held n 2 (([c0, c1, c2, c3, c4, c5, c6].drop 0).take (Tryz.prog.cellsOf 2)) = some y0 := hfi 0 _ rfl
 rw [z0] at f0
 obtain ⟨d0, r0⟩ := (aF Tryz.underlying2) enc W base spare held n _ _ f0
 have f1 : DataW.trod enc Tryz.prog W base spare held n 4 (([c0, c1, c2, c3, c4, c5, c6].drop 1).take (Tryz.prog.cellsOf 4)) = some y1 := hfi 1 _ rfl
 rw [z1] at f1
 obtain ⟨d1, r1⟩ := (hL Tryz.underlying4) enc W base spare held n _ _ f1
 have f2 : DataW.trod enc Tryz.prog W base spare held n 2 (([c0, c1, c2, c3, c4, c5, c6].drop 2).take (Tryz.prog.cellsOf 2)) = some y2 := hfi 2 _ rfl
 rw [z0] at f2
 obtain ⟨d2, r2⟩ := (aF Tryz.underlying2) enc W base spare held n _ _ f2
 have f3 : DataW.trod enc Tryz.prog W base spare held n 2 (([c0, c1, c2, c3, c4, c5, c6].drop 3).take (Tryz.prog.cellsOf 2)) = some y3 := hfi 3 _ rfl
 rw [z0] at f3
 obtain ⟨d3, r3⟩ := (aF Tryz.underlying2) enc W base spare held n _ _ f3
 have f4 : DataW.trod enc Tryz.prog W base spare held n 127 (([c0, c1, c2, c3, c4, c5, c6].drop 4).take (Tryz.prog.cellsOf 127)) = some y4 := hfi 4 _ rfl
 rw [z2] at f4
 obtain ⟨d4, r4⟩ := (cb Tryz.underlying127 (by kernel_rfl) (by decide) dU) enc W base spare held n _ _ f4
 have f5 : DataW.trod enc Tryz.prog W base spare held n 2 (([c0, c1, c2, c3, c4, c5, c6].drop 5).take (Tryz.prog.cellsOf 2)) = some y5 := hfi 5 _ rfl
 rw [z0] at f5
 obtain ⟨d5, r5⟩ := (aF Tryz.underlying2) enc W base spare held n _ _ f5
 have f6 : DataW.trod enc Tryz.prog W base spare held n 2 (([c0, c1, c2, c3, c4, c5, c6].drop 6).take (Tryz.prog.cellsOf 2)) = some y6 := hfi 6 _ rfl
 rw [z0] at f6
 obtain ⟨d6, r6⟩ := (aF Tryz.underlying2) enc W base spare held n _ _ f6
 exact ⟨⟨d0, d1, d2, d3, d4, d5, d6⟩, (ay r0 (ay r1 (ay r2 (ay r3 (ay r4 (ay r5 r6))))))⟩
theorem jn : cQ ad.bg 134 := by
 intro H enc W base spare held fuel cs x h
 obtain ⟨xs, n, _, _, hlen, hl, hfi⟩ := DataW.trod_struct Tryz.underlying134 h
 rw [show Tryz.prog.cellsOf 134 = 10 by kernel_rfl] at hlen
 match cs, hlen with
 | [c0, c1, c2, c3, c4, c5, c6, c7, c8, c9], _ =>
 match xs, hl with
 | [y0, y1, y2, y3, y4, y5], _ =>
 have z0 : Tryz.prog.cellsOf 2 = 1 := by kernel_rfl
 have z1 : Tryz.prog.cellsOf 132 = 5 := by kernel_rfl
 have f0 : DataW.trod enc Tryz.prog W base spare held n 2 (([c0, c1, c2, c3, c4, c5, c6, c7, c8, c9].drop 0).take (Tryz.prog.cellsOf 2)) = some y0 := hfi 0 _ rfl
 rw [z0] at f0
 obtain ⟨d0, r0⟩ := (aF Tryz.underlying2) enc W base spare held n _ _ f0
 have f1 : DataW.trod enc Tryz.prog W base spare held n 2 (([c0, c1, c2, c3, c4, c5, c6, c7, c8, c9].drop 1).take (Tryz.prog.cellsOf 2)) = some y1 := hfi 1 _ rfl
 rw [z0] at f1
 obtain ⟨d1, r1⟩ := (aF Tryz.underlying2) enc W base spare held n _ _ f1
 have f2 : DataW.trod enc Tryz.prog W base spare held n 2 (([c0, c1, c2, c3, c4, c5, c6, c7, c8, c9].drop 2).take (Tryz.prog.cellsOf 2)) = some y2 := hfi 2 _ rfl
 rw [z0] at f2
 obtain ⟨d2, r2⟩ := (aF Tryz.underlying2) enc W base spare held n _ _ f2
 have f3 : DataW.trod enc Tryz.prog W base spare held n 2 (([c0, c1, c2, c3, c4, c5, c6, c7, c8, c9].drop 3).take (Tryz.prog.cellsOf 2)) = some y3 := hfi 3 _ rfl
 rw [z0] at f3
 obtain ⟨d3, r3⟩ := (aF Tryz.underlying2) enc W base spare held n _ _ f3
 have f4 : DataW.trod enc Tryz.prog W base spare held n 2 (([c0, c1, c2, c3, c4, c5, c6, c7, c8, c9].drop 4).take (Tryz.prog.cellsOf 2)) = some y4 := hfi 4 _ rfl
 rw [z0] at f4
 obtain ⟨d4, r4⟩ := (aF Tryz.underlying2) enc W base spare held n _ _ f4
 have f5 : DataW.trod enc Tryz.prog W base spare held n 132 (([c0, c1, c2, c3, c4, c5, c6, c7, c8, c9].drop 5).take (Tryz.prog.cellsOf 132)) = some y5 := hfi 5 _ rfl
 rw [z1] at f5
 obtain ⟨d5, r5⟩ := (dU) enc W base spare held n _ _ f5
 exact ⟨⟨d0, d1, d2, d3, d4, d5⟩, (ay r0 (ay r1 (ay r2 (ay r3 (ay r4 r5)))))⟩
theorem jl : cQ ad.bU 242 := by
 intro H enc W base spare held fuel cs x h
 obtain ⟨xs, n, _, _, hlen, hl, hfi⟩ := DataW.trod_struct Tryz.underlying242 h
 rw [show Tryz.prog.cellsOf 242 = 2 by kernel_rfl] at hlen
 match cs, hlen with
 | [c0, c1], _ =>
 match xs, hl with
 | [y0, y1], _ =>
 have z0 : Tryz.prog.cellsOf 2 = 1 := by kernel_rfl
 have f0 : DataW.trod enc Tryz.prog W base spare held n 2 (([c0, c1].drop 0).take (Tryz.prog.cellsOf 2)) = some y0 := hfi 0 _ rfl
 rw [z0] at f0
 obtain ⟨d0, r0⟩ := (aF Tryz.underlying2) enc W base spare held n _ _ f0
 have f1 : DataW.trod enc Tryz.prog W base spare held n 2 (([c0, c1].drop 1).take (Tryz.prog.cellsOf 2)) = some y1 := hfi 1 _ rfl
 rw [z0] at f1
 obtain ⟨d1, r1⟩ := (aF Tryz.underlying2) enc W base spare held n _ _ f1
 exact ⟨⟨d0, d1⟩, (ay r0 r1)⟩
end Go.Proofs.YtecagllmonckgaaGreat
