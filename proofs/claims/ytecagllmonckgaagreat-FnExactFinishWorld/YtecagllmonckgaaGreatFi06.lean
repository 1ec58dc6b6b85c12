/-
  Texts of this proof in one: SpecMsgF, SpecMCopy, LayWritesResult, SeqPlain, LayOnceResult, AppPlain, LayNodeResult, NodePlain, NetsPlain, WorldPlain, OwnNetResult, NetKit, WorldOK, WorldSt, RowPut, WorldPut, WorldSpec, AppNode, AppEntry, AppHit, LayMore, AppHitsL, OwnNodeResult, NodeKitP, SpecWs, SpecLast5, SpecSess, SpecOnce, NodeKit, AppWrite.
  Their conditions stand in their theorems.
-/
import Derived.Test.YtecagllmonckgaaGreatChecked
import Derived.Test.YtecagllmonckgaaGreatFi05
import Derived.Test.YtecagllmonckgaaGreatFi01
import Derived.Deep.RegionHeld3
import Derived.Deep.CutRange
import Derived.Test.YtecagllmonckgaaGreatFi00
import Derived.Test.YtecagllmonckgaaGreatFi04
import Derived.Test.YtecagllmonckgaaGreatFi03
import Derived.WalkKit
import Derived.Maps.AppendAt
set_option maxRecDepth 100000
set_option maxHeartbeats 4000000
namespace Go.Proofs.YtecagllmonckgaaGreat
open Go.RowKit
def rP (w : World) (b o : Nat) (x : bJ) (v : Value) : Prop :=
 w.cell? ⟨b, o, none⟩ = some (.int .i64 x.kind) ∧ w.cell? ⟨b, o + 1, none⟩ = some (.int .i64 x.af) ∧ w.cell? ⟨b, o + 2, none⟩ = some (.int .i64 x.src) ∧ w.cell? ⟨b, o + 3, none⟩ = some (.int .i64 x.dst) ∧ w.cell? ⟨b, o + 4, none⟩ = some (.int .i64 x.index) ∧ w.cell? ⟨b, o + 5, none⟩ = some (.int .i64 x.write.kind) ∧ w.cell? ⟨b, o + 5 + 1, none⟩ = some (.int .i64 x.write.id) ∧ w.cell? ⟨b, o + 5 + 2, none⟩ = some (v) ∧ w.cell? ⟨b, o + 5 + 3, none⟩ = some (.int .i64 x.write.aa) ∧ w.cell? ⟨b, o + 5 + 4, none⟩ = some (.int .i64 x.write.seq)
theorem sm {y : aA} (h : (y.kind == 0) = false) : decide (kW y) = false := by
 rw [decide_eq_false_iff_not]; intro q; rw [q.1] at h; simp at h
theorem sh {y : aA} (h : (y.id == 0) = false) : decide (kW y) = false := by
 rw [decide_eq_false_iff_not]; intro q; rw [q.2.1] at h; simp at h
theorem rV {y : aA} (h : (y.aa == 0) = false) : decide (kW y) = false := by
 rw [decide_eq_false_iff_not]; intro q; rw [q.2.2.1] at h; simp at h
theorem rS {y : aA} (h : (y.seq == 0) = false) : decide (kW y) = false := by
 rw [decide_eq_false_iff_not]; intro q; rw [q.2.2.2.1] at h; simp at h
theorem sD {y : aA} (h : ((y.vec.length : Int) == 0) = false) : decide (kW y) = false := by
 rw [decide_eq_false_iff_not]; intro q; rw [q.2.2.2.2] at h; simp at h
theorem sR {y : aA} (h0 : (y.kind == 0) = true) (h1 : (y.id == 0) = true) (h2 : (y.aa == 0) = true) (h3 : (y.seq == 0) = true) (h4 : ((y.vec.length : Int) == 0) = true) : decide (kW y) = true := by
 rw [decide_eq_true_iff]
 simp only [beq_iff_eq] at h0 h1 h2 h3 h4
 exact ⟨h0, h1, h2, h3, by omega⟩
theorem qJ {x : bJ} (h : (decide (1 ≤ x.kind) && decide (x.kind ≤ 2)) = false) : aF x = 1 := by
 rw [aF, if_pos (Or.inl (by simpa using h))]
theorem ry {x : bJ} (h : (x.src == x.dst) = true) : aF x = 1 := by
 rw [aF, if_pos (Or.inr (Or.inl (beq_iff_eq.1 h)))]
theorem sf {x : bJ} (h : (x.kind == 2) = true) (h2 : decide (kW x.write) = false) : aF x = 1 := by
 rw [aF, if_pos (Or.inr (Or.inr ⟨beq_iff_eq.1 h, decide_eq_false_iff_not.1 h2⟩))]
def df (x : bJ) : Int := if ¬ (1 ≤ x.af ∧ x.af ≤ 999) ∨ ¬ (1 ≤ x.src ∧ x.src ≤ 5) ∨ ¬ (1 ≤ x.dst ∧ x.dst ≤ 5) ∨ ¬ (0 ≤ x.index ∧ x.index ≤ 40) ∨ (x.kind ≠ 2 ∧ x.index = 0) then 3
 else if x.kind = 2 then 0 else wF x.write
theorem qd {x : bJ} (h : (decide (1 ≤ x.kind) && decide (x.kind ≤ 2)) = true) (h1 : (x.src == x.dst) = false) (h2 : (x.kind == 2) = false) : aF x = df x := by
 rw [aF, if_neg, df]
 simp at h h1 h2
 rintro (q | q | q)
 ·
  exact q h
 ·
  exact h1 q
 exact h2 q.1
theorem pM {x : bJ} (h : (decide (1 ≤ x.kind) && decide (x.kind ≤ 2)) = true) (h1 : (x.src == x.dst) = false) (h2 : decide (kW x.write) = true) : aF x = df x := by
 rw [aF, if_neg, df]
 simp at h h1 h2
 rintro (q | q | q)
 ·
  exact q h
 ·
  exact h1 q
 exact q.2 h2
theorem kZ {x : bJ} (h : (decide (1 ≤ x.af) && decide (x.af ≤ 999)) = false) : df x = 3 := by
 rw [df, if_pos (Or.inl (by simpa using h))]
theorem pH {x : bJ} (h : (decide (1 ≤ x.src) && decide (x.src ≤ 5)) = false) : df x = 3 := by
 rw [df, if_pos (Or.inr (Or.inl (by simpa using h)))]
theorem qB {x : bJ} (h : (decide (1 ≤ x.dst) && decide (x.dst ≤ 5)) = false) : df x = 3 := by
 rw [df, if_pos (Or.inr (Or.inr (Or.inl (by simpa using h))))]
theorem lC {x : bJ} (h : (decide (0 ≤ x.index) && decide (x.index ≤ 40)) = false) : df x = 3 := by
 rw [df, if_pos (Or.inr (Or.inr (Or.inr (Or.inl (by simpa using h)))))]
theorem qX {x : bJ} (h : (x.kind == 2) = false) (h2 : (x.index == 0) = true) : df x = 3 := by
 rw [df, if_pos (Or.inr (Or.inr (Or.inr (Or.inr ⟨by simpa using h, by simpa using h2⟩))))]
theorem rO {x : bJ} (h0 : (decide (1 ≤ x.af) && decide (x.af ≤ 999)) = true) (h1 : (decide (1 ≤ x.src) && decide (x.src ≤ 5)) = true) (h2 : (decide (1 ≤ x.dst) && decide (x.dst ≤ 5)) = true) (h3 : (decide (0 ≤ x.index) && decide (x.index ≤ 40)) = true) (h4 : (x.kind == 2) = true ∨ (x.index == 0) = false) : df x = if x.kind = 2 then 0 else wF x.write := by
 rw [df, if_neg]
 simp at h0 h1 h2 h3 h4
 rintro (q | q | q | q | q)
 ·
  exact q h0
 ·
  exact q h1
 ·
  exact q h2
 ·
  exact q h3
 rcases h4 with h4 | h4
 ·
  exact q.1 h4
 exact h4 q.2
theorem j7 {w : World} {y : aA} {a : Option Addr} {d : Nat} (h : ab.ai.Reads w [.int .i64 y.kind, .int .i64 y.id, .slice a y.vec.length d, .int .i64 y.aa, .int .i64 y.seq] y) : (ab.sl ab.int).Reads w [.slice a y.vec.length d] y.vec := by
 obtain ⟨a2, d2, e, R⟩ := bk h
 simp only [List.cons.injEq, Value.slice.injEq, and_true, true_and] at e
 obtain ⟨rfl, rfl⟩ := e
 exact R
theorem qL (b o : Nat) (a : Option Addr) (d : Nat) (x : bJ) (w : World) (hM : rP w b o x (.slice a x.write.vec.length d)) (R : (ab.sl ab.int).Reads w [.slice a x.write.vec.length d] x.write.vec) :
  Calls Tryz.prog 210 #[.pointer (some ⟨b, o, none⟩)] w fun e w' => e = .returned (.int .i64 (aF x)) ∧ Below w.heap.size w w' := by
 have hbig := R.dK
 have H := yh R
 have HM := yh hM
 obtain ⟨c0, c1, c2, c3, c4, c5, c6, c7, c8, c9⟩ := hM
 have hb := World.block_lt_of_cell? _ _ c0
 clear R
 go_enter Tryz.func210, Tryz.ntmps210
 go_upto_region 2 with fail
 go_cut [4] from 10 to 48 (fun s4 wx => s4 = .bool (decide (kW x.write)) ∧ wx = w)
 case first =>
  cases e0 : (x.write.kind == 0)
  ·
   have HF := yh (sm e0)
   go_wp2_with fail
   go_meet
   exact ⟨by rw [uh HF], rfl⟩
  cases e1 : (x.write.id == 0)
  ·
   have HF := yh (sh e1)
   go_wp2_with fail
   go_meet
   exact ⟨by rw [uh HF], rfl⟩
  cases e2 : (x.write.aa == 0)
  ·
   have HF := yh (rV e2)
   go_wp2_with fail
   go_meet
   exact ⟨by rw [uh HF], rfl⟩
  cases e3 : (x.write.seq == 0)
  ·
   have HF := yh (rS e3)
   go_wp2_with fail
   go_meet
   exact ⟨by rw [uh HF], rfl⟩
  cases e4 : ((x.write.vec.length : Int) == 0)
  ·
   have HF := yh (sD e4)
   go_wp2_with fail
   go_meet
   exact ⟨by rw [uh HF], rfl⟩
  have HF := yh (sR e0 e1 e2 e3 e4)
  go_wp2_with fail
  go_meet
  exact ⟨by rw [uh HF], rfl⟩
 case rest =>
  obtain ⟨rfl, hwc⟩ := hcut
  subst hwc
  cases d1 : (decide (1 ≤ x.kind) && decide (x.kind ≤ 2))
  ·
   have HF := yh (qJ d1)
   go_upto_region 3 with fail
   refine wZz (fun w' => Below wc.heap.size wc w') (Below.refl _ _).drew (fun zq => ?_)
   generalize wc.drew = wD at zq ⊢
   refine tkH 0 zq ?_
   refine tkH 1 zq ?_
   refine tkH 2 zq ?_
   refine tkJ 3 (v := ?va3_4) ?ha3_4 zq ?ra3_4
   case ha3_4 =>
    intro wS hSw
    have q0 := cZ hSw hb c0
    clear hSw
    exact fZ
   refine rdH 4 (fun K hK => ?_)
   go_simp
   go_at_call 102
   refine (eE x.kind 1 2 _).mono ?_
   rintro e w1 ⟨rfl, h1⟩
   subst w1
   rw [d1]
   try go_wp2_with fail
   refine hK.out _ _ zq (fun zq => ?_)
   clear hK K
   try simp only [Act.put, pz, py, px]
   refine tkH 5 zq ?_
   refine tkH 6 zq ?_
   refine skH 7 zq ?_
   refine skH 8 zq ?_
   refine skH 9 zq ?_
   refine skH 10 zq ?_
   refine skH 11 zq ?_
   refine skH 12 zq ?_
   refine skH 13 zq ?_
   refine skH 14 zq ?_
   refine skH 15 zq ?_
   refine tkH 16 zq ?_
   refine tkH 17 zq ?_
   refine skH 18 zq ?_
   refine skH 19 zq ?_
   refine skH 20 zq ?_
   refine skH 21 zq ?_
   refine skH 22 zq ?_
   refine tkH 23 zq ?_
   refine dZ ?_
   have HB9 := yh zq
   clear zq
   go_wp2_with fail
   go_ret
   exact ⟨by rw [uh HF]; rfl, uh HB9⟩
  cases e1 : (x.src == x.dst)
  ·
   cases e2 : (x.kind == 2)
   ·
    have HRS := yh (qd d1 e1 e2)
    go_upto_region 3 with fail
    refine wZz (fun w' => Below wc.heap.size wc w') (Below.refl _ _).drew (fun zq => ?_)
    generalize wc.drew = wD at zq ⊢
    refine tkH 0 zq ?_
    refine tkH 1 zq ?_
    refine tkH 2 zq ?_
    refine tkJ 3 (v := ?vc3_4) ?hc3_4 zq ?rc3_4
    case hc3_4 =>
     intro wS hSw
     have q0 := cZ hSw hb c0
     clear hSw
     exact fZ
    refine rdH 4 (fun K hK => ?_)
    go_simp
    go_at_call 102
    refine (eE x.kind 1 2 _).mono ?_
    rintro e w1 ⟨rfl, h1⟩
    subst w1
    rw [d1]
    try go_wp2_with fail
    refine hK.out _ _ zq (fun zq => ?_)
    clear hK K
    try simp only [Act.put, pz, py, px]
    refine tkH 5 zq ?_
    refine tkH 6 zq ?_
    refine tkH 7 zq ?_
    refine tkH 8 zq ?_
    refine tkH 9 zq ?_
    refine tkJ 10 (v := ?vc10_10) ?hc10_10 zq ?rc10_10
    case hc10_10 =>
     intro wS hSw
     have q2 := cZ hSw hb c2
     clear hSw
     exact fZ
    refine tkH 11 zq ?_
    refine tkH 12 zq ?_
    refine tkH 13 zq ?_
    refine tkJ 14 (v := ?vc14_14) ?hc14_14 zq ?rc14_14
    case hc14_14 =>
     intro wS hSw
     have q3 := cZ hSw hb c3
     clear hSw
     exact fZ
    refine tkH 15 zq ?_
    refine tkH 16 zq ?_
    refine tkH 17 zq ?_
    refine tkH 18 zq ?_
    refine tkH 19 zq ?_
    refine skH 20 zq ?_
    refine skH 21 zq ?_
    refine tkH 22 zq ?_
    refine tkH 23 zq ?_
    refine dZ ?_
    have HB9 := zq
    clear zq
    have c0 : wD.cell? ⟨b, o, none⟩ = some (.int .i64 x.kind) := (HB9.cell (p := ⟨b, o, none⟩) hb).trans c0
    have c1 : wD.cell? ⟨b, o + 1, none⟩ = some (.int .i64 x.af) := (HB9.cell (p := ⟨b, o + 1, none⟩) hb).trans c1
    have c2 : wD.cell? ⟨b, o + 2, none⟩ = some (.int .i64 x.src) := (HB9.cell (p := ⟨b, o + 2, none⟩) hb).trans c2
    have c3 : wD.cell? ⟨b, o + 3, none⟩ = some (.int .i64 x.dst) := (HB9.cell (p := ⟨b, o + 3, none⟩) hb).trans c3
    have c4 : wD.cell? ⟨b, o + 4, none⟩ = some (.int .i64 x.index) := (HB9.cell (p := ⟨b, o + 4, none⟩) hb).trans c4
    have c5 : wD.cell? ⟨b, o + 5, none⟩ = some (.int .i64 x.write.kind) := (HB9.cell (p := ⟨b, o + 5, none⟩) hb).trans c5
    have c6 : wD.cell? ⟨b, o + 5 + 1, none⟩ = some (.int .i64 x.write.id) := (HB9.cell (p := ⟨b, o + 5 + 1, none⟩) hb).trans c6
    have c7 : wD.cell? ⟨b, o + 5 + 2, none⟩ = some (.slice a x.write.vec.length d) := (HB9.cell (p := ⟨b, o + 5 + 2, none⟩) hb).trans c7
    have c8 : wD.cell? ⟨b, o + 5 + 3, none⟩ = some (.int .i64 x.write.aa) := (HB9.cell (p := ⟨b, o + 5 + 3, none⟩) hb).trans c8
    have c9 : wD.cell? ⟨b, o + 5 + 4, none⟩ = some (.int .i64 x.write.seq) := (HB9.cell (p := ⟨b, o + 5 + 4, none⟩) hb).trans c9
    have HWD := yh ((uh H).ag HB9)
    replace hb : b < wD.heap.size := Nat.lt_of_lt_of_le hb HB9.size
    replace HB9 := yh HB9
    go_wp2_with fail
    refine (eE x.af 1 999 wD).mono ?_
    rintro e w1 ⟨rfl, h1⟩
    subst w1
    cases d10 : (decide (1 ≤ x.af) && decide (x.af ≤ 999))
    ·
     have HF := yh ((uh HRS).trans (kZ d10))
     clear d10
     go_wp2_with fail
     go_ret
     exact ⟨by rw [uh HF]; rfl, uh HB9⟩
    skip
    go_wp2_with fail
    refine (gz x.src wD).mono ?_
    rintro e w1 ⟨rfl, h1⟩
    subst w1
    cases d12 : (decide (1 ≤ x.src) && decide (x.src ≤ 5))
    ·
     have HF := yh ((uh HRS).trans (pH d12))
     clear d12
     go_wp2_with fail
     go_ret
     exact ⟨by rw [uh HF]; rfl, uh HB9⟩
    skip
    go_wp2_with fail
    refine (gz x.dst wD).mono ?_
    rintro e w1 ⟨rfl, h1⟩
    subst w1
    cases d14 : (decide (1 ≤ x.dst) && decide (x.dst ≤ 5))
    ·
     have HF := yh ((uh HRS).trans (qB d14))
     clear d14
     go_wp2_with fail
     go_ret
     exact ⟨by rw [uh HF]; rfl, uh HB9⟩
    skip
    go_wp2_with fail
    refine (eE x.index 0 40 wD).mono ?_
    rintro e w1 ⟨rfl, h1⟩
    subst w1
    cases d16 : (decide (0 ≤ x.index) && decide (x.index ≤ 40))
    ·
     have HF := yh ((uh HRS).trans (lC d16))
     clear d16
     go_wp2_with fail
     go_ret
     exact ⟨by rw [uh HF]; rfl, uh HB9⟩
    skip
    cases e5 : (x.index == 0)
    ·
     have HF : Hid (aF x = wF x.write) := (uh HRS).trans ((rO d10 d12 d14 d16 (Or.inr e5)).trans (if_neg (by simpa using e2)))
     clear d10 d12 d14 d16
     go_wp2_with fail
     refine (mA b (o + 5) x.write.kind x.write.id _ x.write.aa x.write.seq x.write.vec wD ⟨c5, c6, c7, c8, c9⟩ (ab.bn (uh HWD))).mono ?_
     rintro e w1 ⟨rfl, h1⟩
     subst w1
     go_wp2_with fail
     go_ret
     exact ⟨by rw [uh HF]; rfl, uh HB9⟩
    have HF : Hid (aF x = 3) := (uh HRS).trans (qX e2 e5)
    clear d10 d12 d14 d16
    go_wp2_with fail
    go_ret
    exact ⟨by rw [uh HF]; rfl, uh HB9⟩
   cases e3 : decide (kW x.write)
   ·
    have HF := yh (sf e2 e3)
    go_upto_region 3 with fail
    refine wZz (fun w' => Below wc.heap.size wc w') (Below.refl _ _).drew (fun zq => ?_)
    generalize wc.drew = wD at zq ⊢
    refine tkH 0 zq ?_
    refine tkH 1 zq ?_
    refine tkH 2 zq ?_
    refine tkJ 3 (v := ?vd3_4) ?hd3_4 zq ?rd3_4
    case hd3_4 =>
     intro wS hSw
     have q0 := cZ hSw hb c0
     clear hSw
     exact fZ
    refine rdH 4 (fun K hK => ?_)
    go_simp
    go_at_call 102
    refine (eE x.kind 1 2 _).mono ?_
    rintro e w1 ⟨rfl, h1⟩
    subst w1
    rw [d1]
    try go_wp2_with fail
    refine hK.out _ _ zq (fun zq => ?_)
    clear hK K
    try simp only [Act.put, pz, py, px]
    refine tkH 5 zq ?_
    refine tkH 6 zq ?_
    refine tkH 7 zq ?_
    refine tkH 8 zq ?_
    refine tkH 9 zq ?_
    refine tkJ 10 (v := ?vd10_10) ?hd10_10 zq ?rd10_10
    case hd10_10 =>
     intro wS hSw
     have q2 := cZ hSw hb c2
     clear hSw
     exact fZ
    refine tkH 11 zq ?_
    refine tkH 12 zq ?_
    refine tkH 13 zq ?_
    refine tkJ 14 (v := ?vd14_14) ?hd14_14 zq ?rd14_14
    case hd14_14 =>
     intro wS hSw
     have q3 := cZ hSw hb c3
     clear hSw
     exact fZ
    refine tkH 15 zq ?_
    refine tkH 16 zq ?_
    refine tkH 17 zq ?_
    refine tkH 18 zq ?_
    refine tkH 19 zq ?_
    refine tkH 20 zq ?_
    refine tkH 21 zq ?_
    refine tkH 22 zq ?_
    refine tkH 23 zq ?_
    refine dZ ?_
    have HB9 := yh zq
    clear zq
    go_wp2_with fail
    go_ret
    exact ⟨by rw [uh HF]; rfl, uh HB9⟩
   have HRS := yh (pM d1 e1 e3)
   go_upto_region 3 with fail
   refine wZz (fun w' => Below wc.heap.size wc w') (Below.refl _ _).drew (fun zq => ?_)
   generalize wc.drew = wD at zq ⊢
   refine tkH 0 zq ?_
   refine tkH 1 zq ?_
   refine tkH 2 zq ?_
   refine tkJ 3 (v := ?ve3_4) ?he3_4 zq ?re3_4
   case he3_4 =>
    intro wS hSw
    have q0 := cZ hSw hb c0
    clear hSw
    exact fZ
   refine rdH 4 (fun K hK => ?_)
   go_simp
   go_at_call 102
   refine (eE x.kind 1 2 _).mono ?_
   rintro e w1 ⟨rfl, h1⟩
   subst w1
   rw [d1]
   try go_wp2_with fail
   refine hK.out _ _ zq (fun zq => ?_)
   clear hK K
   try simp only [Act.put, pz, py, px]
   refine tkH 5 zq ?_
   refine tkH 6 zq ?_
   refine tkH 7 zq ?_
   refine tkH 8 zq ?_
   refine tkH 9 zq ?_
   refine tkJ 10 (v := ?ve10_10) ?he10_10 zq ?re10_10
   case he10_10 =>
    intro wS hSw
    have q2 := cZ hSw hb c2
    clear hSw
    exact fZ
   refine tkH 11 zq ?_
   refine tkH 12 zq ?_
   refine tkH 13 zq ?_
   refine tkJ 14 (v := ?ve14_14) ?he14_14 zq ?re14_14
   case he14_14 =>
    intro wS hSw
    have q3 := cZ hSw hb c3
    clear hSw
    exact fZ
   refine tkH 15 zq ?_
   refine tkH 16 zq ?_
   refine tkH 17 zq ?_
   refine tkH 18 zq ?_
   refine tkH 19 zq ?_
   refine tkH 20 zq ?_
   refine tkH 21 zq ?_
   refine tkH 22 zq ?_
   refine tkH 23 zq ?_
   refine dZ ?_
   have HB9 := zq
   clear zq
   have c0 : wD.cell? ⟨b, o, none⟩ = some (.int .i64 x.kind) := (HB9.cell (p := ⟨b, o, none⟩) hb).trans c0
   have c1 : wD.cell? ⟨b, o + 1, none⟩ = some (.int .i64 x.af) := (HB9.cell (p := ⟨b, o + 1, none⟩) hb).trans c1
   have c2 : wD.cell? ⟨b, o + 2, none⟩ = some (.int .i64 x.src) := (HB9.cell (p := ⟨b, o + 2, none⟩) hb).trans c2
   have c3 : wD.cell? ⟨b, o + 3, none⟩ = some (.int .i64 x.dst) := (HB9.cell (p := ⟨b, o + 3, none⟩) hb).trans c3
   have c4 : wD.cell? ⟨b, o + 4, none⟩ = some (.int .i64 x.index) := (HB9.cell (p := ⟨b, o + 4, none⟩) hb).trans c4
   have c5 : wD.cell? ⟨b, o + 5, none⟩ = some (.int .i64 x.write.kind) := (HB9.cell (p := ⟨b, o + 5, none⟩) hb).trans c5
   have c6 : wD.cell? ⟨b, o + 5 + 1, none⟩ = some (.int .i64 x.write.id) := (HB9.cell (p := ⟨b, o + 5 + 1, none⟩) hb).trans c6
   have c7 : wD.cell? ⟨b, o + 5 + 2, none⟩ = some (.slice a x.write.vec.length d) := (HB9.cell (p := ⟨b, o + 5 + 2, none⟩) hb).trans c7
   have c8 : wD.cell? ⟨b, o + 5 + 3, none⟩ = some (.int .i64 x.write.aa) := (HB9.cell (p := ⟨b, o + 5 + 3, none⟩) hb).trans c8
   have c9 : wD.cell? ⟨b, o + 5 + 4, none⟩ = some (.int .i64 x.write.seq) := (HB9.cell (p := ⟨b, o + 5 + 4, none⟩) hb).trans c9
   have HWD := yh ((uh H).ag HB9)
   replace hb : b < wD.heap.size := Nat.lt_of_lt_of_le hb HB9.size
   replace HB9 := yh HB9
   go_wp2_with fail
   refine (eE x.af 1 999 wD).mono ?_
   rintro e w1 ⟨rfl, h1⟩
   subst w1
   cases d12 : (decide (1 ≤ x.af) && decide (x.af ≤ 999))
   ·
    have HF := yh ((uh HRS).trans (kZ d12))
    clear d12
    go_wp2_with fail
    go_ret
    exact ⟨by rw [uh HF]; rfl, uh HB9⟩
   skip
   go_wp2_with fail
   refine (gz x.src wD).mono ?_
   rintro e w1 ⟨rfl, h1⟩
   subst w1
   cases d14 : (decide (1 ≤ x.src) && decide (x.src ≤ 5))
   ·
    have HF := yh ((uh HRS).trans (pH d14))
    clear d14
    go_wp2_with fail
    go_ret
    exact ⟨by rw [uh HF]; rfl, uh HB9⟩
   skip
   go_wp2_with fail
   refine (gz x.dst wD).mono ?_
   rintro e w1 ⟨rfl, h1⟩
   subst w1
   cases d16 : (decide (1 ≤ x.dst) && decide (x.dst ≤ 5))
   ·
    have HF := yh ((uh HRS).trans (qB d16))
    clear d16
    go_wp2_with fail
    go_ret
    exact ⟨by rw [uh HF]; rfl, uh HB9⟩
   skip
   go_wp2_with fail
   refine (eE x.index 0 40 wD).mono ?_
   rintro e w1 ⟨rfl, h1⟩
   subst w1
   cases d18 : (decide (0 ≤ x.index) && decide (x.index ≤ 40))
   ·
    have HF := yh ((uh HRS).trans (lC d18))
    clear d18
    go_wp2_with fail
    go_ret
    exact ⟨by rw [uh HF]; rfl, uh HB9⟩
   skip
   have HF : Hid (aF x = 0) := (uh HRS).trans ((rO d12 d14 d16 d18 (Or.inl e2)).trans (if_pos (beq_iff_eq.1 e2)))
   clear d12 d14 d16 d18
   go_wp2_with fail
   go_ret
   exact ⟨by rw [uh HF]; rfl, uh HB9⟩
  have HF := yh (ry e1)
  go_upto_region 3 with fail
  refine wZz (fun w' => Below wc.heap.size wc w') (Below.refl _ _).drew (fun zq => ?_)
  generalize wc.drew = wD at zq ⊢
  refine tkH 0 zq ?_
  refine tkH 1 zq ?_
  refine tkH 2 zq ?_
  refine tkJ 3 (v := ?vb3_4) ?hb3_4 zq ?rb3_4
  case hb3_4 =>
   intro wS hSw
   have q0 := cZ hSw hb c0
   clear hSw
   exact fZ
  refine rdH 4 (fun K hK => ?_)
  go_simp
  go_at_call 102
  refine (eE x.kind 1 2 _).mono ?_
  rintro e w1 ⟨rfl, h1⟩
  subst w1
  rw [d1]
  try go_wp2_with fail
  refine hK.out _ _ zq (fun zq => ?_)
  clear hK K
  try simp only [Act.put, pz, py, px]
  refine tkH 5 zq ?_
  refine tkH 6 zq ?_
  refine tkH 7 zq ?_
  refine tkH 8 zq ?_
  refine tkH 9 zq ?_
  refine tkJ 10 (v := ?vb10_10) ?hb10_10 zq ?rb10_10
  case hb10_10 =>
   intro wS hSw
   have q2 := cZ hSw hb c2
   clear hSw
   exact fZ
  refine tkH 11 zq ?_
  refine tkH 12 zq ?_
  refine tkH 13 zq ?_
  refine tkJ 14 (v := ?vb14_14) ?hb14_14 zq ?rb14_14
  case hb14_14 =>
   intro wS hSw
   have q3 := cZ hSw hb c3
   clear hSw
   exact fZ
  refine tkH 15 zq ?_
  refine tkH 16 zq ?_
  refine tkH 17 zq ?_
  refine skH 18 zq ?_
  refine skH 19 zq ?_
  refine skH 20 zq ?_
  refine skH 21 zq ?_
  refine skH 22 zq ?_
  refine tkH 23 zq ?_
  refine dZ ?_
  have HB9 := yh zq
  clear zq
  go_wp2_with fail
  go_ret
  exact ⟨by rw [uh HF]; rfl, uh HB9⟩
theorem o9 (b off cap : Nat) (ws : List bJ) (w : World) (h : (ab.sl ab.aJ).Reads w [.slice (some ⟨b, off, none⟩) ws.length cap] ws) (hbl : b < w.heap.size) (hn : ws.length ≤ 10000000) (hv : ∀ x ∈ ws, x.write.vec.length ≤ 100000000) :
  Calls Tryz.prog 171 #[.slice (some ⟨b, off, none⟩) ws.length cap] w fun e w' => ∃ v', e = .returned v' ∧ (∃ rows bls, bN ab.aJ w' w.heap.size 145 v' rows ws bls ∧ ∀ c ∈ bls.flatten, w.heap.size ≤ c) ∧ Below w.heap.size w w' := by
 have H := yh h
 have HV := yh hv
 clear h hv
 have HG0 : Hid (bN ab.aJ (w.alloc (.cells #[] 145)) w.heap.size 145 (.slice (some ⟨w.heap.size, 0, none⟩) 0 0) [] [] []) := bN.nil (World.ownsRow_lit w #[] 0 (Nat.le_refl _) (Nat.zero_le _) rfl)
 have HB0 := yh ((Below.refl w.heap.size w).alloc (Nat.le_refl _) (.cells #[] 145))
 go_enter Tryz.func171, Tryz.ntmps171
 go_wp2_with fail
 go_loopw [3, 4] (fun v i wr => ∃ (k : Nat) (rows : List (List Value)) (bls : List (List Nat)), k ≤ ws.length ∧ i = .int .i64 k ∧ bN ab.aJ wr w.heap.size 145 v rows (ws.take k) bls ∧ (∀ c ∈ bls.flatten, w.heap.size ≤ c) ∧ Below w.heap.size w wr) (fun _ i _ => ws.length - (intOf i).toNat)
 case atStart => exact ⟨0, [], [], Nat.zero_le _, rfl, uh HG0, by simp, uh HB0⟩
 case round =>
  obtain ⟨k, rows, bls, hk, rfl, hG, hSB, hB⟩ := hrel
  have HSB := yh hSB
  clear HG0 HB0 hSB
  by_cases hlt : k < ws.length
  ·
   obtain ⟨row, hc, hr⟩ := ab.bm ((uh H).ag hB) hlt
   have hr2 := hr
   obtain ⟨a2, d2, rfl, R2w⟩ := cx hr
   have R2 := j7 R2w
   clear R2w
   have c0 : wr.cell? ⟨b, off + k * 10, none⟩ = some (.int .i64 (ws[k]).kind) := hc 0 (by decide)
   have c1 : wr.cell? ⟨b, off + k * 10 + 1, none⟩ = some (.int .i64 (ws[k]).af) := hc 1 (by decide)
   have c2 : wr.cell? ⟨b, off + k * 10 + 2, none⟩ = some (.int .i64 (ws[k]).src) := hc 2 (by decide)
   have c3 : wr.cell? ⟨b, off + k * 10 + 3, none⟩ = some (.int .i64 (ws[k]).dst) := hc 3 (by decide)
   have c4 : wr.cell? ⟨b, off + k * 10 + 4, none⟩ = some (.int .i64 (ws[k]).index) := hc 4 (by decide)
   have c5 : wr.cell? ⟨b, off + k * 10 + 5, none⟩ = some (.int .i64 (ws[k]).write.kind) := hc 5 (by decide)
   have c6 : wr.cell? ⟨b, off + k * 10 + 6, none⟩ = some (.int .i64 (ws[k]).write.id) := hc 6 (by decide)
   have c7 : wr.cell? ⟨b, off + k * 10 + 7, none⟩ = some (.slice a2 (ws[k]).write.vec.length d2) := hc 7 (by decide)
   have c8 : wr.cell? ⟨b, off + k * 10 + 8, none⟩ = some (.int .i64 (ws[k]).write.aa) := hc 8 (by decide)
   have c9 : wr.cell? ⟨b, off + k * 10 + 9, none⟩ = some (.int .i64 (ws[k]).write.seq) := hc 9 (by decide)
   have HWF : Hid ((Lit.int .i64 (ws[k]).kind).wf = true ∧ (Lit.int .i64 (ws[k]).af).wf = true ∧ (Lit.int .i64 (ws[k]).src).wf = true ∧ (Lit.int .i64 (ws[k]).dst).wf = true ∧ (Lit.int .i64 (ws[k]).index).wf = true ∧ (Lit.int .i64 (ws[k]).write.kind).wf = true ∧ (Lit.int .i64 (ws[k]).write.id).wf = true ∧ (Lit.int .i64 (ws[k]).write.aa).wf = true ∧ (Lit.int .i64 (ws[k]).write.seq).wf = true) := by
    obtain ⟨_, hq⟩ := hr2
    obtain ⟨_, _, _, _, _, q0, q1, q2, q3, q4, q5, q6, _, q8, q9⟩ := dV.1 hq
    exact ⟨q0, q1, q2, q3, q4, q5, q6, q8, q9⟩
   have HT : Hid (ws.take (k + 1) = ws.take k ++ [ws[k]]) := List.take_succ_eq_append_getElem hlt
   have HLn : Hid ((ws.take k).length = k) := by show (ws.take k).length = k; rw [List.length_take]; omega
   have HN := yh (uh HV ws[k] (List.getElem_mem hlt))
   clear hc hr hr2
   generalize hx : ws[k] = x at *
   clear hx
   have hbr : b < wr.heap.size := Nat.lt_of_lt_of_le hbl hB.size
   have nb : Below wr.heap.size wr (wr.alloc (.cells #[.int .i64 x.kind, .int .i64 x.af, .int .i64 x.src, .int .i64 x.dst, .int .i64 x.index, .int .i64 x.write.kind, .int .i64 x.write.id, .slice a2 x.write.vec.length d2, .int .i64 x.write.aa, .int .i64 x.write.seq] 145)) := (Below.refl _ _).alloc (Nat.le_refl _) _
   have bI : aj 0 #[.int .i64 x.kind, .int .i64 x.af, .int .i64 x.src, .int .i64 x.dst, .int .i64 x.index, .int .i64 x.write.kind, .int .i64 x.write.id, .slice a2 x.write.vec.length d2, .int .i64 x.write.aa, .int .i64 x.write.seq] 145 (wr.alloc (.cells #[.int .i64 x.kind, .int .i64 x.af, .int .i64 x.src, .int .i64 x.dst, .int .i64 x.index, .int .i64 x.write.kind, .int .i64 x.write.id, .slice a2 x.write.vec.length d2, .int .i64 x.write.aa, .int .i64 x.write.seq] 145)) wr.heap.size := aH (Nat.zero_le _)
   have HRW := yh (ab.bn R2).wf
   have HL := yh (jr _ x.write.vec _ ((ab.bn R2).ag nb) (uh HN))
   have HG := yh (hG.ag nb)
   have HB := yh (hB.trans (nb.mono hB.size))
   have HBI := yh bI
   have HZW : Hid (w.heap.size ≤ wr.heap.size) := hB.size
   have HOW : Hid (∀ c, u3.ownBlock = some c → c < wr.heap.size) := fun c hc => (hG.own.lt c hc).2
   have HSL : Hid (∀ c ∈ bls.flatten, c < wr.heap.size) := fun c hc => hG.sub_lt c hc
   clear R2 hG hB nb bI
   go_wp2_with fail
   clear c0 c1 c2 c3 c4 c5 c6 c7 c8 c9
   refine (uh HL).mono ?_
   generalize hW0 : wr.alloc (.cells #[.int .i64 x.kind, .int .i64 x.af, .int .i64 x.src, .int .i64 x.dst, .int .i64 x.index, .int .i64 x.write.kind, .int .i64 x.write.id, .slice a2 x.write.vec.length d2, .int .i64 x.write.aa, .int .i64 x.write.seq] 145) = W0 at *
   clear hW0
   rintro e w2 ⟨v2, rfl, hO, hb⟩
   have hO2 := ab.ez (uh HRW) (by have := uh HN; omega) hO
   obtain ⟨ao2, cp2, rfl⟩ := aE hO2.reads
   obtain ⟨bl2, ⟨hl2, -, -⟩, hr2⟩ := hO2
   have bI2 := (uh HBI).au hb
   have hZ0 : wr.heap.size < W0.heap.size := (uh HBI).lt
   have z0 : w2.cell? ⟨wr.heap.size, 0, none⟩ = some (.int .i64 x.kind) := bI2.at 0 _ rfl
   have z1 : w2.cell? ⟨wr.heap.size, 1, none⟩ = some (.int .i64 x.af) := bI2.at 1 _ rfl
   have z2 : w2.cell? ⟨wr.heap.size, 2, none⟩ = some (.int .i64 x.src) := bI2.at 2 _ rfl
   have z3 : w2.cell? ⟨wr.heap.size, 3, none⟩ = some (.int .i64 x.dst) := bI2.at 3 _ rfl
   have z4 : w2.cell? ⟨wr.heap.size, 4, none⟩ = some (.int .i64 x.index) := bI2.at 4 _ rfl
   have z5 : w2.cell? ⟨wr.heap.size, 5, none⟩ = some (.int .i64 x.write.kind) := bI2.at 5 _ rfl
   have z6 : w2.cell? ⟨wr.heap.size, 6, none⟩ = some (.int .i64 x.write.id) := bI2.at 6 _ rfl
   have z7 : w2.cell? ⟨wr.heap.size, 7, none⟩ = some (.slice a2 x.write.vec.length d2) := bI2.at 7 _ rfl
   have z8 : w2.cell? ⟨wr.heap.size, 8, none⟩ = some (.int .i64 x.write.aa) := bI2.at 8 _ rfl
   have z9 : w2.cell? ⟨wr.heap.size, 9, none⟩ = some (.int .i64 x.write.seq) := bI2.at 9 _ rfl
   have f2 := bI2.soft 7
   have l2 := bI2.lt
   have hE : Ext (fun c => c = wr.heap.size) w2 (w2.setCell ⟨wr.heap.size, 7, none⟩ (.slice ao2 x.write.vec.length cp2)) := (Ext.refl (fun c => c = wr.heap.size) w2).setCell ⟨wr.heap.size, 7, none⟩ _ rfl
   have hl3 : ab.aJ.bp (w2.setCell ⟨wr.heap.size, 7, none⟩ (.slice ao2 x.write.vec.length cp2)) [.int .i64 x.kind, .int .i64 x.af, .int .i64 x.src, .int .i64 x.dst, .int .i64 x.index, .int .i64 x.write.kind, .int .i64 x.write.id, .slice ao2 x.write.vec.length cp2, .int .i64 x.write.aa, .int .i64 x.write.seq] x bl2 := dV.2 ⟨ao2, cp2, bl2, rfl, rfl, (uh HWF).1, (uh HWF).2.1, (uh HWF).2.2.1, (uh HWF).2.2.2.1, (uh HWF).2.2.2.2.1, (uh HWF).2.2.2.2.2.1, (uh HWF).2.2.2.2.2.2.1, (ab.sl ab.int).au hl2 (fun c hc => hE.block c ((ab.sl ab.int).lt hl2 c hc) (by have := (hr2 c hc).1; omega)), (uh HWF).2.2.2.2.2.2.2.1, (uh HWF).2.2.2.2.2.2.2.2⟩
   have hG2 := (uh HG).ag hb
   have hoff : ∀ c ∈ bl2, u3.ownBlock ≠ some c := fun c hc e => by have h1 := (hr2 c hc).1; have h2 := uh HOW c e; omega
   have HB3 : Hid (Below w.heap.size w (w2.setCell ⟨wr.heap.size, 7, none⟩ (.slice ao2 x.write.vec.length cp2))) := ((uh HB).trans (hb.mono (uh HB).size)).setCell (by simpa using uh HZW) _
   have hG3 : bN ab.aJ (w2.setCell ⟨wr.heap.size, 7, none⟩ (.slice ao2 x.write.vec.length cp2)) w.heap.size 145 u3 rows (ws.take k) bls := hG2.kept (by
    obtain ⟨h1, h2⟩ := hG2.own
    refine ⟨h1, ?_⟩
    rcases h2 with h2 | ⟨gb, cap', cur, hv, hg, hh, r⟩
    ·
     exact Or.inl h2
    ·
     exact Or.inr ⟨gb, cap', cur, hv, hg, (hE.block gb (lt_of_block hh) (by have := uh HOW gb (by rw [hv]; rfl); omega)).trans hh, r⟩) (fun c hc => hE.block c (hG2.sub_lt c hc) (fun e => by
    have := uh HSL c hc
    omega))
   have hZ3 : w.heap.size ≤ (w2.setCell ⟨wr.heap.size, 7, none⟩ (.slice ao2 x.write.vec.length cp2)).heap.size := (uh HB3).size
   have hK : (ws.take k).length + 1 ≤ 100000000 := by rw [uh HLn]; omega
   have y0 : (w2.setCell ⟨wr.heap.size, 7, none⟩ (.slice ao2 x.write.vec.length cp2)).cell? ⟨wr.heap.size, 0, none⟩ = some (.int .i64 x.kind) := (bI2.set 7 _).at 0 _ rfl
   have y1 : (w2.setCell ⟨wr.heap.size, 7, none⟩ (.slice ao2 x.write.vec.length cp2)).cell? ⟨wr.heap.size, 1, none⟩ = some (.int .i64 x.af) := (bI2.set 7 _).at 1 _ rfl
   have y2 : (w2.setCell ⟨wr.heap.size, 7, none⟩ (.slice ao2 x.write.vec.length cp2)).cell? ⟨wr.heap.size, 2, none⟩ = some (.int .i64 x.src) := (bI2.set 7 _).at 2 _ rfl
   have y3 : (w2.setCell ⟨wr.heap.size, 7, none⟩ (.slice ao2 x.write.vec.length cp2)).cell? ⟨wr.heap.size, 3, none⟩ = some (.int .i64 x.dst) := (bI2.set 7 _).at 3 _ rfl
   have y4 : (w2.setCell ⟨wr.heap.size, 7, none⟩ (.slice ao2 x.write.vec.length cp2)).cell? ⟨wr.heap.size, 4, none⟩ = some (.int .i64 x.index) := (bI2.set 7 _).at 4 _ rfl
   have y5 : (w2.setCell ⟨wr.heap.size, 7, none⟩ (.slice ao2 x.write.vec.length cp2)).cell? ⟨wr.heap.size, 5, none⟩ = some (.int .i64 x.write.kind) := (bI2.set 7 _).at 5 _ rfl
   have y6 : (w2.setCell ⟨wr.heap.size, 7, none⟩ (.slice ao2 x.write.vec.length cp2)).cell? ⟨wr.heap.size, 6, none⟩ = some (.int .i64 x.write.id) := (bI2.set 7 _).at 6 _ rfl
   have y7 : (w2.setCell ⟨wr.heap.size, 7, none⟩ (.slice ao2 x.write.vec.length cp2)).cell? ⟨wr.heap.size, 7, none⟩ = some (.slice ao2 x.write.vec.length cp2) := (bI2.set 7 _).at 7 _ rfl
   have y8 : (w2.setCell ⟨wr.heap.size, 7, none⟩ (.slice ao2 x.write.vec.length cp2)).cell? ⟨wr.heap.size, 8, none⟩ = some (.int .i64 x.write.aa) := (bI2.set 7 _).at 8 _ rfl
   have y9 : (w2.setCell ⟨wr.heap.size, 7, none⟩ (.slice ao2 x.write.vec.length cp2)).cell? ⟨wr.heap.size, 9, none⟩ = some (.int .i64 x.write.seq) := (bI2.set 7 _).at 9 _ rfl
   have HSB5 : Hid (∀ c ∈ (bls ++ [bl2]).flatten, w.heap.size ≤ c) := by
    intro c hc
    rw [List.flatten_append] at hc
    rcases List.mem_append.1 hc with hc | hc
    ·
     exact uh HSB c hc
    have h1 := (hr2 c (by simpa using hc)).1
    have h2 := uh HZW
    omega
   clear z0 z1 z2 z3 z4 z5 z6 z8 z9 bI2 hE hG2 hl2 hO HG HL HB HBI HRW HN HWF hb hr2 hZ0
   go_upto_region 7 with fail
   generalize w2.setCell ⟨wr.heap.size, 7, none⟩ (.slice ao2 x.write.vec.length cp2) = W3 at *
   go_wp2_with (at_builtin; refine gx hG3 hl3 hoff rfl _ _ rfl rfl rfl hK hZ3 ?_)
   intro g5 cap5 w5 hG5 hb5 hE5 hg5 hz5 hor5
   have HG5 := yh hG5
   have HB5 := yh ((uh HB3).trans hb5)
   clear hG3 hl3 hoff hZ3 hK hG5 hb5 hE5 hg5 hz5 hor5 HB3 y0 y1 y2 y3 y4 y5 y6 y7 y8 y9 z7 f2 l2
   go_wp2_with fail
   go_roundw
   case rel =>
    have hg := uh HG5
    rw [← uh HT] at hg
    try rw [uh HLn] at hg
    exact ⟨k + 1, _, _, by omega, by go_num, hg, uh HSB5, uh HB5⟩
   case measure => simp [intOf]; omega
  obtain rfl : k = ws.length := by omega
  rw [List.take_length] at hG
  have HG := yh hG
  have HB := yh hB
  clear hG hB H
  go_wp2_with fail
  go_ret
  exact ⟨_, rfl, ⟨_, _, uh HG, uh HSB⟩, uh HB⟩
theorem m1 (v : Value) (ws : List bJ) (w : World) (h : (ab.sl ab.aJ).Reads w [v] ws) (hn : ws.length ≤ 10000000) (hv : ∀ x ∈ ws, x.write.vec.length ≤ 100000000) :
  Calls Tryz.prog 171 #[v] w fun e w' => ∃ v', e = .returned v' ∧ (∃ rows bls, bN ab.aJ w' w.heap.size 145 v' rows ws bls ∧ ∀ c ∈ bls.flatten, w.heap.size ≤ c) ∧ Below w.heap.size w w' := by
 obtain ⟨ao, cap, rfl⟩ := aE h
 by_cases hp : 0 < ws.length
 ·
  obtain ⟨b, off, rfl, hbl⟩ := ab.aI h hp
  exact o9 b off cap ws w h hbl hn hv
 obtain rfl : ws = [] := List.eq_nil_of_length_eq_zero (by omega)
 clear h hp hn hv
 have HB := yh ((Below.refl w.heap.size w).alloc (Nat.le_refl _) (.cells #[] 145))
 have HG : Hid (bN ab.aJ (w.alloc (.cells #[] 145)) w.heap.size 145 (.slice (some ⟨w.heap.size, 0, none⟩) 0 0) [] [] []) := bN.nil (World.ownsRow_lit w #[] 0 (Nat.le_refl _) (Nat.zero_le _) rfl)
 go_enter Tryz.func171, Tryz.ntmps171
 go_wp2_with fail
 refine wp_loop_rounds 1 ?_
 rw [rounds_succ]
 go_wp2_with fail
 go_ret
 exact ⟨_, rfl, ⟨_, _, uh HG, by simp⟩, uh HB⟩
def cK (ws : List aA) (s q : Int) : eU := if fp ws s = 0 then (if 1 ≤ q ∧ q ≤ 999 then (if bM ws s q = 0 then ⟨4, 0⟩ else ⟨0, bM ws s q⟩) else ⟨3, 0⟩) else ⟨fp ws s, 0⟩
theorem ox {ws : List aA} (s : Int) (h : aY ws ≠ 0) : fp ws s = aY ws := by rw [fp, if_neg h]
theorem gO {ws : List aA} {s : Int} (h : aY ws = 0) (hs : ¬ (1 ≤ s ∧ s ≤ 9)) : fp ws s = 3 := by rw [fp, if_pos h, if_neg hs]
theorem eJ {ws : List aA} {s : Int} (h : aY ws = 0) (hs : 1 ≤ s ∧ s ≤ 9) : fp ws s = 0 := by rw [fp, if_pos h, if_pos hs]
theorem dec9 {s : Int} (hs : 1 ≤ s ∧ s ≤ 9) : (decide (1 ≤ s) && decide (s ≤ 9)) = true := by simp [hs.1, hs.2]
theorem sK {s : Int} (hs : ¬ (1 ≤ s ∧ s ≤ 9)) : (decide (1 ≤ s) && decide (s ≤ 9)) = false := by
 rw [Bool.eq_false_iff]
 intro hb
 simp only [Bool.and_eq_true, decide_eq_true_eq] at hb
 exact hs hb
theorem rT {s : Int} (hs : 1 ≤ s ∧ s ≤ 999) : (decide (1 ≤ s) && decide (s ≤ 999)) = true := by simp [hs.1, hs.2]
theorem qN {s : Int} (hs : ¬ (1 ≤ s ∧ s ≤ 999)) : (decide (1 ≤ s) && decide (s ≤ 999)) = false := by
 rw [Bool.eq_false_iff]
 intro hb
 simp only [Bool.and_eq_true, decide_eq_true_eq] at hb
 exact hs hb
theorem fm {w : World} {c z : Int} {lo hi : Nat} (hc : (Lit.int .i64 c).wf = true) (hz : (Lit.int .i64 z).wf = true) : ab.eS.aQ w [.int .i64 c, .int .i64 z] ⟨c, z⟩ lo hi :=
 ⟨[], ⟨fe.2 ⟨rfl, rfl, hc, hz⟩, by simp, by simp⟩, by simp⟩
theorem sy (ws : List aA) : (Lit.int .i64 (aY ws)).wf = true := by
 have : 0 ≤ aY ws ∧ aY ws ≤ 3 := by
  unfold aY
  split
  ·
   omega
  induction ws with
  | nil => simp [cc]
  | cons x xs ih =>
   rw [cc]
   split
   ·
    exact ih (by rename_i h _; simp only [List.length_cons] at h; omega)
   exact kz x
 exact aR (by omega)
def aS (x : bz) : Int :=
 if 1 ≤ x.id ∧ x.id ≤ 5 ∧ 0 ≤ x.af ∧ x.af ≤ 999 ∧ 0 ≤ x.az ∧ x.az ≤ 9999 then
  if 40 < x.writes.length then 2
  else if cc x.writes ≠ 0 then cc x.writes
  else if cP [] x.writes = false then 6
  else if 0 ≤ x.sure ∧ x.sure ≤ x.writes.length ∧ 0 ≤ x.clean ∧ x.clean ≤ x.sure then
   if x.up = false ∧ ¬ (x.sure = x.writes.length ∧ x.clean = 0 ∧ x.az = 0) then 1 else 0
  else 3
 else 3
def rW : bz := ⟨0, false, 0, 0, [], 0, 0⟩
theorem iO (x : bz) : 0 ≤ aS x ∧ aS x ≤ 6 := by
 have := mj x.writes
 unfold aS
 split
 ·
  split
  ·
   omega
  split
  ·
   omega
  split
  ·
   omega
  split
  ·
   split <;> omega
  omega
 omega
structure pQ (x : bz) : Prop where
 id : 1 ≤ x.id ∧ x.id ≤ 5
 af : 0 ≤ x.af ∧ x.af ≤ 999
 az : 0 ≤ x.az ∧ x.az ≤ 9999
 len : x.writes.length ≤ 40
 ws : ∀ y ∈ x.writes, wF y = 0
 once : cP [] x.writes = true
 sure : 0 ≤ x.sure ∧ x.sure ≤ x.writes.length
 clean : 0 ≤ x.clean ∧ x.clean ≤ x.sure
 down : x.up = false → x.sure = x.writes.length ∧ x.clean = 0 ∧ x.az = 0
theorem cD {x : bz} (h : aS x = 0) : pQ x := by
 unfold aS at h
 split at h
 ·
  rename_i h1
  split at h
  ·
   simp at h
  rename_i h2
  split at h
  ·
   rename_i h3; exact absurd h h3
  rename_i h3
  split at h
  ·
   simp at h
  rename_i h4
  split at h
  ·
   rename_i h5
   split at h
   ·
    simp at h
   rename_i h6
   refine ⟨by omega, by omega, by omega, by omega, hJ (by simpa using h3), by simpa using h4, by omega, by omega, fun hu => ?_⟩
   exact Classical.byContradiction fun hc => h6 ⟨hu, hc⟩
  simp at h
 simp at h
theorem cR {xs : List bJ} (h : aX xs = 0) : xs.length ≤ 40 ∧ ∀ x ∈ xs, aF x = 0 := by
 unfold aX at h
 split at h
 ·
  simp at h
 exact ⟨by omega, fK h⟩
def cj (x : ay) (id : Int) : Bool := decide (1 ≤ id) && decide (id ≤ (x.nodes.length : Int))
def ch (c : bH) : Nat → List bz → Int
 | _, [] => 0
 | i, n :: ns =>
  if aS n ≠ 0 then aS n
  else if n.id ≠ (i : Int) + 1 then 1
  else if c.af < n.af ∨ (n.up = true ∧ 0 ≤ bL c.ids n.id ∧ n.af ≠ c.af) then 7
  else ch c (i + 1) ns
def bE (x : ay) : Int :=
 if ch x.chain 0 x.nodes ≠ 0 then ch x.chain 0 x.nodes
 else if x.chain.ids.all (cj x) then 0 else 4
def fk (x : ay) (e : aZ) : Bool :=
 (decide (1 ≤ e.kind) && decide (e.kind ≤ 3)) && ((decide (1 ≤ e.start) && decide (e.start ≤ x.events)) && ((e.fin == 0 || (decide (e.start ≤ e.fin) && decide (e.fin ≤ x.events))) && (decide (0 ≤ e.place) && decide (e.place ≤ 40))))
def aW (x : ay) : Int :=
 if ¬ (0 ≤ x.now ∧ x.now ≤ 9000) ∨ ¬ (0 ≤ x.events ∧ x.events ≤ 9999) then 3
 else if aM x.chain ≠ 0 then aM x.chain
 else if x.nodes.length < 1 ∨ 5 < x.nodes.length then 2
 else if bE x ≠ 0 then bE x
 else if aX x.msgs ≠ 0 then aX x.msgs
 else if 60 < x.ae.length then 2
 else if x.ae.all (fk x) then 0 else 3
def eb : ay := ⟨0, 0, nC, [], [], []⟩
def bO (c : Int) : a0 := ⟨c, false, eb⟩
def kE (x : ay) (id : Int) : bz := x.nodes.getD (id - 1).toNat rW
def cC (x : ay) : ay := ⟨x.now, x.events + 1, x.chain, x.nodes, x.msgs, x.ae⟩
def cH (s q : Int) (e : aZ) : Bool := e.kind == 1 && (e.aa == s && e.seq == q)
theorem gX (c : bH) : ∀ (i : Nat) (ns : List bz), 0 ≤ ch c i ns ∧ ch c i ns ≤ 10
 | _, [] => by simp [ch]
 | i, n :: ns => by
  have h1 := iO n
  have h2 := gX c (i + 1) ns
  rw [ch]
  split
  ·
   omega
  split
  ·
   omega
  split
  ·
   omega
  exact h2
theorem im (x : ay) : 0 ≤ bE x ∧ bE x ≤ 10 := by
 have := gX x.chain 0 x.nodes
 unfold bE
 split
 ·
  omega
 split <;> omega
theorem iq (x : ay) (hc : 0 ≤ aM x.chain ∧ aM x.chain ≤ 6) : 0 ≤ aW x ∧ aW x ≤ 10 := by
 have h1 := im x
 have h2 := jE x.msgs
 unfold aW
 repeat' split
 all_goals omega
theorem rC {x : bJ} (h : aF x = 0) : x.write.vec.length ≤ 100000000 := by
 unfold aF at h
 split at h
 ·
  simp at h
 rename_i h1
 split at h
 ·
  simp at h
 split at h
 ·
  rename_i h3
  have h4 : kW x.write := Decidable.byContradiction fun q => h1 (Or.inr (Or.inr ⟨h3, q⟩))
  have := h4.2.2.2.2
  omega
 obtain ⟨-, -, -, hk⟩ := ca h
 rcases hk with ⟨-, hv⟩ | ⟨-, hv⟩
 ·
  have := (cA hv).1; omega
 rw [hv]; simp
theorem qD {xs : List bJ} (h : aX xs = 0) : ∀ x ∈ xs, x.write.vec.length ≤ 100000000 := fun x hx => rC ((cR h).2 x hx)
structure db (x : ay) : Prop where
 now : 0 ≤ x.now ∧ x.now ≤ 9000
 events : 0 ≤ x.events ∧ x.events ≤ 9999
 chain : aM x.chain = 0
 some : 1 ≤ x.nodes.length ∧ x.nodes.length ≤ 5
 nodes : ∀ k (h : k < x.nodes.length), aS x.nodes[k] = 0 ∧ x.nodes[k].id = (k : Int) + 1 ∧ x.nodes[k].af ≤ x.chain.af
 ids : ∀ z ∈ x.chain.ids, cj x z = true
 sG : aX x.msgs = 0
 few : x.ae.length ≤ 60
 told : ∀ e ∈ x.ae, fk x e = true
theorem gQ (c : bH) : ∀ (ns : List bz) (i : Nat), ch c i ns = 0 → ∀ k (h : k < ns.length), aS ns[k] = 0 ∧ ns[k].id = ((i + k : Nat) : Int) + 1 ∧ ns[k].af ≤ c.af
 | [], _, _, k, h => by simp at h
 | n :: ns, i, h0, k, h => by
  rw [ch] at h0
  split at h0
  ·
   rename_i q; exact absurd h0 q
  rename_i q1
  split at h0
  ·
   simp at h0
  rename_i q2
  split at h0
  ·
   simp at h0
  rename_i q3
  cases k with
  | zero => exact ⟨by simpa using q1, by simpa using q2, by
    have : ¬ c.af < n.af := fun q => q3 (Or.inl q)
    simp
    omega⟩
  | succ k =>
   have := gQ c ns (i + 1) h0 k (by simpa using h)
   obtain ⟨a1, a2, a3⟩ := this
   refine ⟨by simpa using a1, ?_, by simpa using a3⟩
   simp only [List.getElem_cons_succ]
   rw [a2]
   omega
theorem dm {x : ay} (h : aW x = 0) : db x := by
 unfold aW at h
 split at h
 ·
  simp at h
 rename_i h1
 split at h
 ·
  rename_i q; exact absurd h q
 rename_i h2
 split at h
 ·
  simp at h
 rename_i h3
 split at h
 ·
  rename_i q; exact absurd h q
 rename_i h4
 split at h
 ·
  rename_i q; exact absurd h q
 rename_i h5
 split at h
 ·
  simp at h
 rename_i h6
 split at h
 ·
  rename_i h7
  have h4' : bE x = 0 := by simpa using h4
  unfold bE at h4'
  have h8 : ch x.chain 0 x.nodes = 0 ∧ x.chain.ids.all (cj x) = true := by
   split at h4'
   ·
    rename_i q; exact absurd h4' q
   rename_i q
   split at h4'
   ·
    rename_i q2; exact ⟨by simpa using q, q2⟩
   simp at h4'
  refine ⟨by omega, by omega, by simpa using h2, by omega, fun k hk => ?_, fun z hz => List.all_eq_true.1 h8.2 z hz, by simpa using h5, by omega, fun e he => List.all_eq_true.1 h7 e he⟩
  have := gQ x.chain x.nodes 0 h8.1 k hk
  simpa using this
 simp at h
def Fits (x : ay) : Prop := ∀ e ∈ x.ae, e.query.length ≤ 10000000 ∧ e.vec.length ≤ 10000000 ∧ e.aN.length ≤ 10000000
theorem jc {x : ay} (h : ab.aC.sz x ≤ 1048576) : Fits x := fun e he => by
 have h1 : ab.aC.sz x = 0 + (0 + (ab.aD.sz x.chain + ((ab.sl ab.ax).sz x.nodes + ((ab.sl ab.aJ).sz x.msgs + (ab.sl ab.ar).sz x.ae)))) := rfl
 obtain ⟨j, hj, rfl⟩ := List.getElem_of_mem he
 have h2 := ab.fw (A := ab.ar) hj
 have h3 : ab.ar.sz x.ae[j] = 0 + (0 + (0 + (0 + ((ab.sl ab.int).sz x.ae[j].query + (0 + (0 + (0 + (0 + ((ab.sl ab.int).sz x.ae[j].vec + (ab.sl ab.bb).sz x.ae[j].aN))))))))) := rfl
 have h4 := ab.fv (A := ab.int) (xs := x.ae[j].query)
 have h5 := ab.fv (A := ab.int) (xs := x.ae[j].vec)
 have h6 := ab.fv (A := ab.bb) (xs := x.ae[j].aN)
 omega
theorem iC {w : World} {cs : List Value} {x : ay} (h : ab.aC.Reads w cs x) : (Lit.int .i64 x.now).wf = true ∧ (Lit.int .i64 x.events).wf = true ∧ (Lit.int .i64 x.chain.af).wf = true := by
 obtain ⟨bl, h⟩ := h
 obtain ⟨_, _, _, _, _, _, _, _, _, _, _, _, -, -, w0, w1, w2, -⟩ := cG.1 h
 exact ⟨w0, w1, w2⟩
theorem iR {w : World} {x : ay} {v3 v4 v5 v6 : Value} {l3 h3 l4 h4 l5 h5 l6 h6 : Nat} (p3 : (ab.sl ab.int).aQ w [v3] x.chain.ids l3 h3) (p4 : (ab.sl ab.ax).aQ w [v4] x.nodes l4 h4) (p5 : (ab.sl ab.aJ).aQ w [v5] x.msgs l5 h5) (p6 : (ab.sl ab.ar).aQ w [v6] x.ae l6 h6)
  (e1 : h3 ≤ l4) (e2 : h4 ≤ l5) (e3 : h5 ≤ l6) (e4 : l3 ≤ h3) (e5 : l4 ≤ h4) (e6 : l5 ≤ h5) (e7 : l6 ≤ h6) (hw : (Lit.int .i64 x.now).wf = true ∧ (Lit.int .i64 x.events).wf = true ∧ (Lit.int .i64 x.chain.af).wf = true) :
  ab.aC.aQ w [.int .i64 x.now, .int .i64 x.events, .int .i64 x.chain.af, v3, v4, v5, v6] x l3 h6 := by
 obtain ⟨b3, O3, i3⟩ := p3
 obtain ⟨b4, O4, i4⟩ := p4
 obtain ⟨b5, O5, i5⟩ := p5
 obtain ⟨b6, O6, i6⟩ := p6
 obtain ⟨w0, w1, w2⟩ := hw
 have hm : ∀ c, c ∈ b3 ++ (b4 ++ (b5 ++ b6)) → (l3 ≤ c ∧ c < h3 ∧ c ∈ b3) ∨ (l4 ≤ c ∧ c < h4 ∧ c ∈ b4) ∨ (l5 ≤ c ∧ c < h5 ∧ c ∈ b5) ∨ (l6 ≤ c ∧ c < h6 ∧ c ∈ b6) := by
  intro c hc
  simp only [List.mem_append] at hc
  rcases hc with hc | hc | hc | hc
  ·
   exact Or.inl ⟨(i3 c hc).1, (i3 c hc).2, hc⟩
  ·
   exact Or.inr (Or.inl ⟨(i4 c hc).1, (i4 c hc).2, hc⟩)
  ·
   exact Or.inr (Or.inr (Or.inl ⟨(i5 c hc).1, (i5 c hc).2, hc⟩))
  exact Or.inr (Or.inr (Or.inr ⟨(i6 c hc).1, (i6 c hc).2, hc⟩))
 refine ⟨b3 ++ (b4 ++ (b5 ++ b6)), eA (hZ O3 w2 O3.2.1) O4 O5 O6 w0 w1 ?_, fun c hc => by have := hm c hc; omega⟩
 rw [List.nodup_append, List.nodup_append, List.nodup_append]
 refine ⟨O3.2.1, ⟨O4.2.1, ⟨O5.2.1, O6.2.1, fun a ha c hc e => ?_⟩, fun a ha c hc e => ?_⟩, fun a ha c hc e => ?_⟩
 ·
  have := i5 a ha; have := i6 c hc; omega
 ·
  have := i4 a ha
  rcases List.mem_append.1 hc with hc | hc
  ·
   have := i5 c hc; omega
  have := i6 c hc; omega
 have := i3 a ha
 simp only [List.mem_append] at hc
 rcases hc with hc | hc | hc
 ·
  have := i4 c hc; omega
 ·
  have := i5 c hc; omega
 have := i6 c hc; omega
theorem ln {x : bz} (h : aS x = 0) : x.writes.length ≤ 1000000 ∧ ∀ y ∈ x.writes, y.vec.length ≤ 10000000 := by
 have hk := cD h
 refine ⟨by have := hk.len; omega, fun y hy => ?_⟩
 obtain ⟨-, -, -, hq⟩ := ca (hk.ws y hy)
 rcases hq with ⟨-, hv⟩ | ⟨-, hv⟩
 ·
  have := (cA hv).1; omega
 rw [hv]; simp
theorem nB {x : bJ} (h : aF x = 0) : x.write.vec.length ≤ 10000000 := by
 unfold aF at h
 split at h
 ·
  simp at h
 rename_i h1
 split at h
 ·
  simp at h
 split at h
 ·
  rename_i h3
  have h4 : kW x.write := Decidable.byContradiction fun q => h1 (Or.inr (Or.inr ⟨h3, q⟩))
  have := h4.2.2.2.2
  omega
 obtain ⟨-, -, -, hk⟩ := ca h
 rcases hk with ⟨-, hv⟩ | ⟨-, hv⟩
 ·
  have := (cA hv).1; omega
 rw [hv]; simp
def fa (w : World) (lo g : Nat) (cells : List Value) (x : ay) : Prop := ∃ bl, ab.aC.Own w cells x bl ∧ g ∉ bl ∧ ∀ b ∈ bl, lo ≤ b ∧ b < w.heap.size
theorem fa.ext {S : Nat → Prop} {w w' : World} {lo g : Nat} {cells : List Value} {x : ay} (h : fa w lo g cells x) (e : Ext S w w') (hs : ∀ k, lo ≤ k → k < w.heap.size → k ≠ g → ¬ S k) : fa w' lo g cells x := by
 obtain ⟨bl, O, hg, hb⟩ := h
 exact ⟨bl, O.ext e (fun b hm => hs b (hb b hm).1 (hb b hm).2 (fun q => hg (q ▸ hm))), hg, fun b hm => ⟨(hb b hm).1, Nat.lt_of_lt_of_le (hb b hm).2 e.size⟩⟩
theorem fa.ag {w w' : World} {lo g : Nat} {cells : List Value} {x : ay} (h : fa w lo g cells x) (hb : Below w.heap.size w w') : fa w' lo g cells x := h.ext (aL hb cU) fun _ _ _ _ q => q
theorem fa.reads {w : World} {lo g : Nat} {cells : List Value} {x : ay} (h : fa w lo g cells x) : ab.aC.Reads w cells x := by
 obtain ⟨bl, O, -⟩ := h
 exact ⟨bl, O.1⟩
theorem fa.sL {w : World} {lo g : Nat} {cells : List Value} {x : ay} (h : fa w lo g cells x) : ab.aC.aQ w cells x lo w.heap.size := by
 obtain ⟨bl, O, -, hb⟩ := h
 exact ⟨bl, O, hb⟩
theorem pa {w : World} {lo hi g : Nat} {cells : List Value} {x : ay} (h : ab.aC.aQ w cells x lo hi) (hg : hi ≤ g) (hh : hi ≤ w.heap.size) : fa w lo g cells x := by
 obtain ⟨bl, O, hb⟩ := h
 exact ⟨bl, O, fun q => by have := hb g q; omega, fun b hm => by have := hb b hm; omega⟩
theorem oZ {w : World} {x : ay} {v3 v4 v5 v6 : Value} {lo g : Nat} (h : fa w lo g [.int .i64 x.now, .int .i64 x.events, .int .i64 x.chain.af, v3, v4, v5, v6] x) (he : -1000000000 ≤ x.events + 1 ∧ x.events + 1 ≤ 1000000000) : fa w lo g [.int .i64 x.now, .int .i64 (x.events + 1), .int .i64 x.chain.af, v3, v4, v5, v6] (cC x) := by
 obtain ⟨bl, O, hg, hb⟩ := h
 obtain ⟨a3, d3, a4, d4, a5, d5, a6, d6, g2, g4, g5, g6, hq, rfl, O2, O4, O5, O6, w0, w1⟩ := gE O
 simp only [List.cons.injEq, and_true, true_and] at hq
 obtain ⟨rfl, rfl, rfl, rfl⟩ := hq
 exact ⟨_, eA (x := cC x) O2 O4 O5 O6 w0 (aR he) O.2.1, hg, hb⟩
theorem ei {w : World} {c : Int} {lo hi : Nat} (hc : -1000000000 ≤ c ∧ c ≤ 1000000000) (h : lo ≤ hi) : ab.aB.aQ w [.int .i64 c, .bool false, .int .i64 0, .int .i64 0, .int .i64 0, .slice none 0 0, .slice none 0 0, .slice none 0 0, .slice none 0 0] (bO c) lo hi := by
 have q : ab.aC.aQ w [.int .i64 0, .int .i64 0, .int .i64 0, .slice none 0 0, .slice none 0 0, .slice none 0 0, .slice none 0 0] eb lo hi :=
  (iR (x := eb) (l3 := lo) (h3 := lo) (l4 := lo) (h4 := lo) (l5 := lo) (h5 := lo) (l6 := lo) (h6 := lo) fD fD fD fD (Nat.le_refl _) (Nat.le_refl _) (Nat.le_refl _) (Nat.le_refl _) (Nat.le_refl _) (Nat.le_refl _) (Nat.le_refl _) ⟨by decide, by decide, by decide⟩).mono (Nat.le_refl _) h
 obtain ⟨bl, O, hb⟩ := q
 exact ⟨bl, dF (x := bO c) O (aR hc) O.2.1, hb⟩
theorem rA {w : World} {m : Bool} {cells : List Value} {x : ay} {lo hi : Nat} (h : ab.aC.aQ w cells x lo hi) : ab.aB.aQ w ([.int .i64 0] ++ ([.bool m] ++ cells)) ⟨0, m, x⟩ lo hi := by
 obtain ⟨bl, O, hb⟩ := h
 exact ⟨bl, dF (x := ⟨0, m, x⟩) O (show (Lit.int .i64 0).wf = true by decide) O.2.1, hb⟩
def kv (c : Int) (mv : Bool) (z : ay) : a0 := if c = 0 then ⟨0, mv, z⟩ else bO c
def nP (L N : Nat) (cap : Array Value) (y : ay) (c : Int) (mv : Bool) (z : ay) (W : World) : Prop :=
 ∀ (g lo : Nat) (v3 v4 v5 v6 : Value), L ≤ lo → aj 0 #[.int .i64 y.now, .int .i64 y.events, .int .i64 y.chain.af, v3, v4, v5, v6] 37 W g → lo ≤ g → fa W lo g [.int .i64 y.now, .int .i64 y.events, .int .i64 y.chain.af, v3, v4, v5, v6] y →
  Calls Tryz.prog N (#[.pointer (some ⟨g, 0, none⟩)] ++ cap) W fun e W' => ∃ m, e = .returned (.tuple #[.bool m, .int .i64 c]) ∧ (c = 0 → m = mv ∧ ∃ (u3 u4 u5 u6 : Value), aj 0 #[.int .i64 z.now, .int .i64 z.events, .int .i64 z.chain.af, u3, u4, u5, u6] 37 W' g ∧ fa W' lo g [.int .i64 z.now, .int .i64 z.events, .int .i64 z.chain.af, u3, u4, u5, u6] z) ∧ Ext (fun q => lo ≤ q) W W'
theorem kF {w w' : World} {lo : Nat} (e : Ext (fun q => lo ≤ q) w w') (h : lo ≤ w.heap.size) : Below lo w w' := e.below h fun k hk hn => by omega
namespace ab
variable {α : Type} {A : ab α} {w w' : World}
def eW (A : ab α) (w : World) (v : Value) (xs : List α) (b : Nat) (r : List Nat) : Prop := (sl A).bp w [v] xs (b :: r) ∧ b ∉ r ∧ ∀ o, w.frozen? ⟨b, o, none⟩ = false
theorem kB {v : Value} {xs : List α} {bl : List Nat} (h : (sl A).Own w [v] xs bl) (hp : 0 < xs.length) : ∃ b off cap r, v = .slice (some ⟨b, off, none⟩) xs.length cap ∧ bl = b :: r ∧ A.eW w v xs b r := by
 obtain ⟨hl, hnd, hf⟩ := h
 have hl2 := hl
 obtain ⟨ao, cp, e, hsz, hor⟩ := hl2
 obtain rfl : v = .slice ao xs.length cp := by simpa using e
 rcases hor with ⟨rfl, -⟩ | ⟨b, off, rows, bls, rfl, hb, rfl, hr, hbl, hj⟩
 ·
  simp at hp
 rw [List.nodup_cons] at hnd
 exact ⟨b, off, cp, bls.flatten, rfl, rfl, hl, hnd.1, fun o => hf b (by simp) o⟩
theorem eW.row {b off cap k n : Nat} {xs : List α} {r : List Nat} (h : A.eW w (.slice (some ⟨b, off, none⟩) n cap) xs b r) (hk : k < xs.length) : ∃ row, cQ w w b (off + k * A.n) A.n row [] ∧ ∃ blk, A.bp w row xs[k] blk ∧ (∀ c ∈ blk, c ∈ r) := by
 obtain ⟨⟨ao, cp, e, hsz, hor⟩, hnb, hf⟩ := h
 simp only [List.cons.injEq, Value.slice.injEq, and_true] at e
 obtain ⟨rfl, rfl, rfl⟩ := e
 rcases hor with ⟨rfl, h0⟩ | ⟨b', off', rows, bls, e2, hb, e3, hr, hbl, hj⟩
 ·
  simp at hk
 simp only [Option.some.injEq, Addr.mk.injEq, and_true] at e2
 obtain ⟨rfl, rfl⟩ := e2
 rw [List.cons.injEq] at e3
 obtain ⟨-, rfl⟩ := e3
 obtain ⟨hc, hlie⟩ := hj k hk (by omega) (by omega)
 exact ⟨rows[k]'(by omega), ⟨A.len hlie, hc, fun _ _ => rfl, hf, hb, Ext.refl _ _⟩, bls[k]'(by omega), hlie, fun c hc => List.mem_flatten.2 ⟨_, List.getElem_mem _, hc⟩⟩
theorem eW.put {b off cap k n : Nat} {xs : List α} {r : List Nat} (h : A.eW w (.slice (some ⟨b, off, none⟩) n cap) xs b r) (hk : k < xs.length) {row' : List Value} {x' : α} {blk' : List Nat}
  (hR : cQ w w' b (off + k * A.n) A.n row' []) (hO : A.bp w' row' x' blk') (hd : b ∉ blk') :
  ∃ r', A.eW w' (.slice (some ⟨b, off, none⟩) n cap) (xs.set k x') b r' ∧ (∀ c ∈ r', c ∈ r ∨ c ∈ blk') ∧ (r.Nodup → blk'.Nodup → (∀ c ∈ blk', c ∉ r) → r'.Nodup) := by
 obtain ⟨⟨ao, cp, e, hsz, hor⟩, hnb, hf⟩ := h
 simp only [List.cons.injEq, Value.slice.injEq, and_true] at e
 obtain ⟨rfl, rfl, rfl⟩ := e
 rcases hor with ⟨rfl, h0⟩ | ⟨b', off', rows, bls, e2, hb, e3, hr, hbl, hj⟩
 ·
  simp at hk
 simp only [Option.some.injEq, Addr.mk.injEq, and_true] at e2
 obtain ⟨rfl, rfl⟩ := e2
 rw [List.cons.injEq] at e3
 obtain ⟨-, rfl⟩ := e3
 have hkb : k < bls.length := by omega
 have hmem : ∀ c ∈ (bls.set k blk').flatten, c ∈ bls.flatten ∨ c ∈ blk' := by
  intro c hc
  obtain ⟨l, hl1, hl2⟩ := List.mem_flatten.1 hc
  rcases List.mem_or_eq_of_mem_set hl1 with q | rfl
  ·
   exact Or.inl (List.mem_flatten.2 ⟨l, q, hl2⟩)
  exact Or.inr hl2
 have hkeep : ∀ c, c < w.heap.size → c ≠ b → w'.heap[c]? = w.heap[c]? := fun c hlt h1 => hR.ext.block c hlt (by rintro (h | h); exact h1 h; cases h)
 refine ⟨(bls.set k blk').flatten, ⟨⟨some ⟨b, off, none⟩, cap, by simp, by simpa using hsz, Or.inr ⟨b, off, rows.set k row', bls.set k blk', rfl, hR.lt, rfl, by simpa using hr, by simpa using hbl, fun j h1 h2 h3 => ?_⟩⟩, ?_, fun o => hR.soft o⟩, hmem, ?_⟩
 ·
  have h1' : j < xs.length := by simpa using h1
  have h2' : j < rows.length := by simpa using h2
  have h3' : j < bls.length := by simpa using h3
  by_cases e : j = k
  ·
   subst e
   rw [List.getElem_set_self, List.getElem_set_self, List.getElem_set_self]
   exact ⟨hR.cells, hO⟩
  rw [List.getElem_set_ne (by omega), List.getElem_set_ne (by omega), List.getElem_set_ne (by omega)]
  obtain ⟨c1, c2⟩ := hj j h1' h2' h3'
  refine ⟨fun m hm => ?_, A.au c2 fun c hm => hkeep c (A.lt c2 c hm) (fun e3 => hnb (e3 ▸ List.mem_flatten.2 ⟨_, List.getElem_mem h3', hm⟩))⟩
  rw [hR.others _ ?_]
  ·
   exact c1 m hm
  rcases Nat.lt_or_ge j k with h | h
  ·
   left
   have : (j + 1) * A.n ≤ k * A.n := Nat.mul_le_mul_right _ h
   rw [Nat.add_mul] at this
   omega
  right
  have : (k + 1) * A.n ≤ j * A.n := Nat.mul_le_mul_right _ (by omega)
  rw [Nat.add_mul] at this
  omega
 ·
  intro hc
  rcases hmem b hc with q | q
  ·
   exact hnb q
  exact hd q
 intro hn1 hn2 hn3
 have hfl := iG hn1
 rw [List.nodup_iff_pairwise_ne, List.pairwise_flatten]
 refine ⟨fun l hl => ?_, ?_⟩
 ·
  rcases List.mem_or_eq_of_mem_set hl with q | rfl
  ·
   exact List.nodup_iff_pairwise_ne.1 (hfl.1 l q)
  exact List.nodup_iff_pairwise_ne.1 hn2
 rw [List.pairwise_iff_getElem]
 intro i j hi hj2 hij x hx y hy exy
 subst exy
 have hi' : i < bls.length := by simpa using hi
 have hj' : j < bls.length := by simpa using hj2
 by_cases e1 : i = k
 ·
  subst e1
  rw [List.getElem_set_self] at hx
  rw [List.getElem_set_ne (by omega)] at hy
  exact hn3 x hx (List.mem_flatten.2 ⟨_, List.getElem_mem hj', hy⟩)
 rw [List.getElem_set_ne (by omega)] at hx
 by_cases e2 : j = k
 ·
  subst e2
  rw [List.getElem_set_self] at hy
  exact hn3 x hy (List.mem_flatten.2 ⟨_, List.getElem_mem hi', hx⟩)
 rw [List.getElem_set_ne (by omega)] at hy
 exact hfl.2 i j hi' hj' (by omega) x hx hy
end ab
theorem ab.eW.ext {α : Type} {A : ab α} {w w' : World} {v : Value} {xs : List α} {b : Nat} {r : List Nat} {S : Nat → Prop} (h : A.eW w v xs b r) (e : Ext S w w') (hb : ¬ S b) (hr : ∀ c ∈ r, ¬ S c) : A.eW w' v xs b r := by
 obtain ⟨hl, hn, hf⟩ := h
 have hlt := (ab.sl A).lt hl
 have hk : ∀ c ∈ b :: r, w'.heap[c]? = w.heap[c]? := fun c hc => e.block c (hlt c hc) (by
  rcases List.mem_cons.1 hc with rfl | hc
  ·
   exact hb
  exact hr c hc)
 exact ⟨(ab.sl A).au hl hk, hn, fun o => (frozen_of_heap (hk b (by simp)) o).trans (hf o)⟩
structure po where
 a3 : Option Addr
 d3 : Nat
 b : Nat
 off : Nat
 d4 : Nat
 a5 : Option Addr
 d5 : Nat
 a6 : Option Addr
 d6 : Nat
 l3 : List Nat
 r : List Nat
 l5 : List Nat
 l6 : List Nat
def po.cells (q : po) (x : ay) : List Value := [.int .i64 x.now, .int .i64 x.events, .int .i64 x.chain.af, .slice q.a3 x.chain.ids.length q.d3, .slice (some ⟨q.b, q.off, none⟩) x.nodes.length q.d4, .slice q.a5 x.msgs.length q.d5, .slice q.a6 x.ae.length q.d6]
structure kx (W : World) (q : po) (x : ay) : Prop where
 w0 : (Lit.int .i64 x.now).wf = true
 w1 : (Lit.int .i64 x.events).wf = true
 w2 : (Lit.int .i64 x.chain.af).wf = true
 i3 : (ab.sl ab.int).bp W [.slice q.a3 x.chain.ids.length q.d3] x.chain.ids q.l3
 i4 : ab.ax.eW W (.slice (some ⟨q.b, q.off, none⟩) x.nodes.length q.d4) x.nodes q.b q.r
 i5 : (ab.sl ab.aJ).bp W [.slice q.a5 x.msgs.length q.d5] x.msgs q.l5
 i6 : (ab.sl ab.ar).bp W [.slice q.a6 x.ae.length q.d6] x.ae q.l6
 n3 : q.b ∉ q.l3
 n5 : q.b ∉ q.l5
 n6 : q.b ∉ q.l6
def rU (W : World) (lo hi : Nat) (G : Nat → Prop) (cells : List Value) (x : ay) : Prop := ∃ q : po, cells = q.cells x ∧ kx W q x ∧ (lo ≤ q.b ∧ q.b < hi) ∧ ¬ G q.b ∧ (∀ c ∈ q.l3, ¬ G c) ∧ (∀ c ∈ q.r, ¬ G c) ∧ (∀ c ∈ q.l5, ¬ G c) ∧ (∀ c ∈ q.l6, ¬ G c)
def ob (W : World) (lo hi : Nat) (cells : List Value) (x : ay) : Prop := ∃ q : po, cells = q.cells x ∧ kx W q x ∧ (lo ≤ q.b ∧ q.b < hi) ∧ (∀ c ∈ q.l3, lo ≤ c ∧ c < hi) ∧ (∀ c ∈ q.r, lo ≤ c ∧ c < hi) ∧ (∀ c ∈ q.l5, lo ≤ c ∧ c < hi) ∧ (∀ c ∈ q.l6, lo ≤ c ∧ c < hi)
theorem kx.ext {W W' : World} {q : po} {x : ay} {S : Nat → Prop} (h : kx W q x) (e : Ext S W W') (hs : ∀ c, c < W.heap.size → (c = q.b ∨ c ∈ q.l3 ∨ c ∈ q.r ∨ c ∈ q.l5 ∨ c ∈ q.l6) → ¬ S c) : kx W' q x := by
 have l3 := (ab.sl ab.int).lt h.i3
 have l4 := (ab.sl ab.ax).lt h.i4.1
 have l5 := (ab.sl ab.aJ).lt h.i5
 have l6 := (ab.sl ab.ar).lt h.i6
 exact ⟨h.w0, h.w1, h.w2, (ab.sl ab.int).au h.i3 (fun c hc => e.block c (l3 c hc) (hs c (l3 c hc) (Or.inr (Or.inl hc)))),
  h.i4.ext e (hs q.b (l4 q.b (by simp)) (Or.inl rfl)) (fun c hc => hs c (l4 c (by simp [hc])) (Or.inr (Or.inr (Or.inl hc)))),
  (ab.sl ab.aJ).au h.i5 (fun c hc => e.block c (l5 c hc) (hs c (l5 c hc) (Or.inr (Or.inr (Or.inr (Or.inl hc)))))),
  (ab.sl ab.ar).au h.i6 (fun c hc => e.block c (l6 c hc) (hs c (l6 c hc) (Or.inr (Or.inr (Or.inr (Or.inr hc)))))), h.n3, h.n5, h.n6⟩
theorem kx.reads {W : World} {q : po} {x : ay} (h : kx W q x) : ab.aC.Reads W (q.cells x) x :=
 ⟨q.l3 ++ ((q.b :: q.r) ++ (q.l5 ++ q.l6)), cG.2 ⟨q.a3, q.d3, q.l3, _, q.d4, _, q.a5, q.d5, q.l5, q.a6, q.d6, q.l6, rfl, rfl, h.w0, h.w1, h.w2, h.i3, h.i4.1, h.i5, h.i6⟩⟩
theorem rU.ext {S : Nat → Prop} {W W' : World} {lo hi : Nat} {G : Nat → Prop} {cells : List Value} {x : ay} (h : rU W lo hi G cells x) (e : Ext S W W') (hs : ∀ k, k < W.heap.size → ¬ G k → ¬ S k) : rU W' lo hi G cells x := by
 obtain ⟨q, rfl, hl, hb, h4, h3, hr, h5, h6⟩ := h
 refine ⟨q, rfl, hl.ext e (fun c hc hm => hs c hc ?_), hb, h4, h3, hr, h5, h6⟩
 rcases hm with rfl | hm | hm | hm | hm
 ·
  exact h4
 ·
  exact h3 c hm
 ·
  exact hr c hm
 ·
  exact h5 c hm
 exact h6 c hm
theorem rU.cX {W : World} {lo hi B : Nat} {G : Nat → Prop} {cells : List Value} {x : ay} (h : rU W lo hi G cells x) (hB : ∀ c, ¬ G c → B ≤ c) : ab.aC.cd W cells x B W.heap.size := by
 obtain ⟨q, rfl, hl, hb, h4, h3, hr, h5, h6⟩ := h
 refine ⟨q.l3 ++ ((q.b :: q.r) ++ (q.l5 ++ q.l6)), cG.2 ⟨q.a3, q.d3, q.l3, _, q.d4, _, q.a5, q.d5, q.l5, q.a6, q.d6, q.l6, rfl, rfl, hl.w0, hl.w1, hl.w2, hl.i3, hl.i4.1, hl.i5, hl.i6⟩, fun c hc => ?_⟩
 rcases List.mem_append.1 hc with hm | hm
 ·
  exact ⟨hB c (h3 c hm), (ab.sl ab.int).lt hl.i3 c hm⟩
 rcases List.mem_append.1 hm with hm | hm
 ·
  refine ⟨hB c ?_, (ab.sl ab.ax).lt hl.i4.1 c hm⟩
  rcases List.mem_cons.1 hm with rfl | hm
  ·
   exact h4
  exact hr c hm
 rcases List.mem_append.1 hm with hm | hm
 ·
  exact ⟨hB c (h5 c hm), (ab.sl ab.aJ).lt hl.i5 c hm⟩
 exact ⟨hB c (h6 c hm), (ab.sl ab.ar).lt hl.i6 c hm⟩
theorem pR {W : World} {m : Bool} {cells : List Value} {x : ay} {lo hi : Nat} (h : ab.aC.cd W cells x lo hi) : ab.aB.cd W ([.int .i64 0] ++ ([.bool m] ++ cells)) ⟨0, m, x⟩ lo hi := by
 obtain ⟨bl, l, hb⟩ := h
 exact ⟨bl, ⟨[.int .i64 0], [.bool m] ++ cells, [], bl, rfl, by simp, ⟨rfl, (show (Lit.int .i64 0).wf = true by decide), rfl⟩, ⟨[.bool m], cells, [], bl, rfl, by simp, ⟨rfl, rfl⟩, l⟩⟩, hb⟩
theorem ob.reads {W : World} {lo hi : Nat} {cells : List Value} {x : ay} (h : ob W lo hi cells x) : ab.aC.Reads W cells x := by
 obtain ⟨q, rfl, hl, -⟩ := h
 exact hl.reads
theorem ob.st {W : World} {lo hi : Nat} {G : Nat → Prop} {cells : List Value} {x : ay} (h : ob W lo hi cells x) (hg : ∀ k, G k → hi ≤ k ∨ k < lo) : rU W lo hi G cells x := by
 obtain ⟨q, rfl, hl, hb, h3, hr, h5, h6⟩ := h
 exact ⟨q, rfl, hl, hb, fun e => by have := hg _ e; omega, fun c hm e => by have := h3 c hm; have := hg c e; omega, fun c hm e => by have := hr c hm; have := hg c e; omega, fun c hm e => by have := h5 c hm; have := hg c e; omega, fun c hm e => by have := h6 c hm; have := hg c e; omega⟩
def wfM (n : bz) : Prop := (Lit.int .i64 n.id).wf = true ∧ (Lit.int .i64 n.af).wf = true ∧ (Lit.int .i64 n.az).wf = true ∧ (Lit.int .i64 n.sure).wf = true ∧ (Lit.int .i64 n.clean).wf = true
theorem ia : (Tryz.prog.info? 79).map (fun i => (i.zero, i.size, i.bytes)) = some (some (.agg #[.int .i64 0, .bool false, .int .i64 0, .int .i64 0, .slice none 0 0, .int .i64 0, .int .i64 0]), 7, 72) := by kernel_rfl
theorem mD {w : World} {row : List Value} {x : bz} {bl : List Nat} (h : ab.ax.bp w row x bl) : (∀ u ∈ row, u.oneCell' = true) ∧ row.length = 1 * 7 := by
 obtain ⟨_, _, _, rfl, -⟩ := dd.1 h
 simp [Value.oneCell']
theorem m0 {w1 : World} {base : Nat} {v : Value} {rows : List (List Value)} {xs : List bz} {bls : List (List Nat)} (hG : bN ab.ax w1 base 79 v rows xs bls) {row : List Value} {x : bz} {bl : List Nat} (hl : ab.ax.bp w1 row x bl) (hbl : ∀ b ∈ bl, v.ownBlock ≠ some b) {ops : Array Oper} {rest : List Oper} {o : Oper} {a : Act} {Q : Exit → Act → World → Prop} (hgd : o.guard = none) (s y : Operand)
  (ho : o.op = .call { callee := .builtin .append, args := #[s, y], argTypes := #[33, 33] }) (hs : a.eval s = v) (hy : a.eval y = .slice (some ⟨w1.heap.size, 0, none⟩) 1 1) (hn : xs.length + 1 ≤ 100000000) (hbase : base ≤ w1.heap.size)
  (h : ∀ g cap w', bN ab.ax w' base 79 (.slice (some ⟨g, 0, none⟩) (xs.length + 1) cap) (rows ++ [row]) (xs ++ [x]) (bls ++ [bl]) → Below base w1 w' → Ext (fun q => v.ownBlock = some q) w1 w' → g < w'.heap.size → w1.heap.size ≤ w'.heap.size → (v.ownBlock = some g ∨ w1.heap.size ≤ g) → wpList Tryz.prog ops Q rest (a.put o.dst (.slice (some ⟨g, 0, none⟩) (xs.length + 1) cap)) w') :
  wpList Tryz.prog ops Q (o :: rest) a (w1.alloc (.cells row.toArray 79)) := by
 obtain ⟨i0, hi0, hz0, hz1, hz2⟩ := info_parts ia
 obtain ⟨h1, hlen⟩ := mD hl
 refine wpList_append_lies _ hgd s y 33 ho base 79 i0 _ 7 72 Tryz.underlying33 hi0 hz0 hz1 hz2 rfl (by omega) v xs.length rows.flatten hs (hG.own.alloc _) ⟨w1.heap.size, 0, none⟩ 1 1 row hy hlen (World.news_of_block (cs := row.toArray) (t := 79) (fr := (0, 0)) (heap_alloc_new w1 _)) h1 (by omega) (by unfold maxLen; omega) (by omega) (by simp; omega) (w1.alloc (.cells row.toArray 79)).heap.size rfl ?_
 intro g cap w' h2 h3 h4 h5
 have hg := dy h3
 have hbw : Below base w1 w' := (Below.refl _ _).grown hg hbase (fun j hj => (hG.own.lt j hj).1)
 have hor : v.ownBlock = some g ∨ w1.heap.size ≤ g := by
  rcases h4 with h4 | h4
  ·
   exact Or.inl h4
  exact Or.inr (by rw [h4]; simp)
 exact h g cap w' (hG.snoc hl hbl h2 hg hor) hbw ⟨hbw.os, hbw.tape, hbw.output, hbw.size, fun k hk hn => hg.block k hk (fun e => hn e.symm)⟩ h5 hbw.size hor
theorem dJ {w1 : World} {base : Nat} {v : Value} {rows : List (List Value)} {xs : List bz} {bls : List (List Nat)} (hG : bN ab.ax w1 base 79 v rows xs bls) {row : List Value} {x : bz} {bl : List Nat} (hl : ab.ax.bp w1 row x bl) (hbl : ∀ b ∈ bl, v.ownBlock ≠ some b) {ops : Array Oper} {o : Oper} {a : Act} {K : Act → World → Prop} {Q : Exit → Act → World → Prop} {E : Prop} (hgd : o.guard = none) (s y : Operand)
  (ho : o.op = .call { callee := .builtin .append, args := #[s, y], argTypes := #[33, 33] }) (hs : a.eval s = v) (hy : a.eval y = .slice (some ⟨w1.heap.size, 0, none⟩) 1 1) (hn : xs.length + 1 ≤ 100000000) (hbase : base ≤ w1.heap.size)
  (h : ∀ g cap w', bN ab.ax w' base 79 (.slice (some ⟨g, 0, none⟩) (xs.length + 1) cap) (rows ++ [row]) (xs ++ [x]) (bls ++ [bl]) → Below base w1 w' → Ext (fun q => v.ownBlock = some q) w1 w' → g < w'.heap.size → w1.heap.size ≤ w'.heap.size → (v.ownBlock = some g ∨ w1.heap.size ≤ g) → K (a.put o.dst (.slice (some ⟨g, 0, none⟩) (xs.length + 1) cap)) w') :
  if Region.wanted o (yielded ops a.tmps) = true then Oper.wp Tryz.prog o a (w1.alloc (.cells row.toArray 79)) K Q else E := by
 obtain ⟨i0, hi0, hz0, hz1, hz2⟩ := info_parts ia
 obtain ⟨h1, hlen⟩ := mD hl
 refine step_append_lies _ hgd s y 33 ho base 79 i0 _ 7 72 Tryz.underlying33 hi0 hz0 hz1 hz2 rfl (by omega) v xs.length rows.flatten hs (hG.own.alloc _) ⟨w1.heap.size, 0, none⟩ 1 1 row hy hlen (World.news_of_block (cs := row.toArray) (t := 79) (fr := (0, 0)) (heap_alloc_new w1 _)) h1 (by omega) (by unfold maxLen; omega) (by omega) (by simp; omega) (w1.alloc (.cells row.toArray 79)).heap.size rfl ?_
 intro g cap w' h2 h3 h4 h5
 have hg := dy h3
 have hbw : Below base w1 w' := (Below.refl _ _).grown hg hbase (fun j hj => (hG.own.lt j hj).1)
 have hor : v.ownBlock = some g ∨ w1.heap.size ≤ g := by
  rcases h4 with h4 | h4
  ·
   exact Or.inl h4
  exact Or.inr (by rw [h4]; simp)
 exact h g cap w' (hG.snoc hl hbl h2 hg hor) hbw ⟨hbw.os, hbw.tape, hbw.output, hbw.size, fun k hk hn => hg.block k hk (fun e => hn e.symm)⟩ h5 hbw.size hor
theorem kL : (Tryz.prog.info? 85).map (fun i => (i.zero, i.size, i.bytes)) = some (some (.agg #[.int .i64 0, .int .i64 0, .int .i64 0, .int .i64 0, .slice none 0 0, .int .i64 0, .int .i64 0, .int .i64 0, .int .i64 0, .slice none 0 0, .slice none 0 0]), 11, 136) := by kernel_rfl
theorem nW {w : World} {row : List Value} {x : aZ} {bl : List Nat} (h : ab.ar.bp w row x bl) : (∀ u ∈ row, u.oneCell' = true) ∧ row.length = 1 * 11 := by
 obtain ⟨_, _, _, _, _, _, _, _, _, rfl, -⟩ := cO.1 h
 simp [Value.oneCell']
theorem fI {w1 : World} {base : Nat} {v : Value} {rows : List (List Value)} {xs : List aZ} {bls : List (List Nat)} (hG : bN ab.ar w1 base 85 v rows xs bls) {row : List Value} {x : aZ} {bl : List Nat} (hl : ab.ar.bp w1 row x bl) (hbl : ∀ b ∈ bl, v.ownBlock ≠ some b) {ops : Array Oper} {rest : List Oper} {o : Oper} {a : Act} {Q : Exit → Act → World → Prop} (hgd : o.guard = none) (s y : Operand)
  (ho : o.op = .call { callee := .builtin .append, args := #[s, y], argTypes := #[35, 35] }) (hs : a.eval s = v) (hy : a.eval y = .slice (some ⟨w1.heap.size, 0, none⟩) 1 1) (hn : xs.length + 1 ≤ 100000000) (hbase : base ≤ w1.heap.size)
  (h : ∀ g cap w', bN ab.ar w' base 85 (.slice (some ⟨g, 0, none⟩) (xs.length + 1) cap) (rows ++ [row]) (xs ++ [x]) (bls ++ [bl]) → Below base w1 w' → Ext (fun q => v.ownBlock = some q) w1 w' → g < w'.heap.size → w1.heap.size ≤ w'.heap.size → (v.ownBlock = some g ∨ w1.heap.size ≤ g) → wpList Tryz.prog ops Q rest (a.put o.dst (.slice (some ⟨g, 0, none⟩) (xs.length + 1) cap)) w') :
  wpList Tryz.prog ops Q (o :: rest) a (w1.alloc (.cells row.toArray 85)) := by
 obtain ⟨i0, hi0, hz0, hz1, hz2⟩ := info_parts kL
 obtain ⟨h1, hlen⟩ := nW hl
 refine wpList_append_lies _ hgd s y 35 ho base 85 i0 _ 11 136 Tryz.underlying35 hi0 hz0 hz1 hz2 rfl (by omega) v xs.length rows.flatten hs (hG.own.alloc _) ⟨w1.heap.size, 0, none⟩ 1 1 row hy hlen (World.news_of_block (cs := row.toArray) (t := 85) (fr := (0, 0)) (heap_alloc_new w1 _)) h1 (by omega) (by unfold maxLen; omega) (by omega) (by simp; omega) (w1.alloc (.cells row.toArray 85)).heap.size rfl ?_
 intro g cap w' h2 h3 h4 h5
 have hg := dy h3
 have hbw : Below base w1 w' := (Below.refl _ _).grown hg hbase (fun j hj => (hG.own.lt j hj).1)
 have hor : v.ownBlock = some g ∨ w1.heap.size ≤ g := by
  rcases h4 with h4 | h4
  ·
   exact Or.inl h4
  exact Or.inr (by rw [h4]; simp)
 exact h g cap w' (hG.snoc hl hbl h2 hg hor) hbw ⟨hbw.os, hbw.tape, hbw.output, hbw.size, fun k hk hn => hg.block k hk (fun e => hn e.symm)⟩ h5 hbw.size hor
theorem nx : (Tryz.prog.info? 150).map (fun i => (i.zero, i.size, i.bytes)) = some (some (.agg #[.int .i64 0, .int .i64 0]), 2, 16) := by kernel_rfl
theorem rB {w : World} {row : List Value} {x : dR} {bl : List Nat} (h : ab.bb.bp w row x bl) : (∀ u ∈ row, u.oneCell' = true) ∧ row.length = 1 * 2 := by
 obtain ⟨rfl, -⟩ := cB.1 h
 simp [Value.oneCell']
theorem fU {P : Program} (t ty e : TypeId) (i : TypeInfo) (ht : P.underlying t = some (.slice e)) (hi : P.info? e = some i) (bo : Option Addr) (n cap c : Nat) (hn : n ≤ cap) (w : World) :
  (Builtin.append_ #[t, t] ty #[.slice bo n cap, .slice none 0 c]).run P w = (Builtin.append_ #[t, t] ty #[.slice bo n cap, .slice (some ⟨0, 0, none⟩) 0 c]).run P w := by
 simp [Builtin.append_, run_underlying ht, sizeOf, typeInfo, hi, Builtin.lenOf, hn, Builtin.firstCells, loadCells, loadCellsFrom]
theorem jS {n : Nat} : ∀ {rows : List (List Value)}, (∀ r ∈ rows, r.length = n) → rows.flatten.length = rows.length * n
 | [], _ => by simp
 | r :: rows, h => by
  rw [List.flatten_cons, List.length_append, h r (by simp), jS (fun q hq => h q (List.mem_cons_of_mem _ hq)), List.length_cons, Nat.add_mul]
  omega
theorem pY (b off j : Nat) : (⟨b, off, none⟩ : Addr).add j = ⟨b, off + j, none⟩ := by unfold Addr.add; split <;> simp_all
theorem oa {α : Type} {A : ab α} {w : World} {b off : Nat} {ys : List α} {rows : List (List Value)} {bls : List (List Nat)} (hn : 0 < A.n) (h : A.Rows w b off ys rows bls) :
  rows.flatten.length = ys.length * A.n ∧ ∀ j u, rows.flatten[j]? = some u → w.cell? ((⟨b, off, none⟩ : Addr).add j) = some u := by
 obtain ⟨h1, h2, h3⟩ := h
 have hl : ∀ r ∈ rows, r.length = A.n := fun r hr => by
  obtain ⟨j, hj, rfl⟩ := List.getElem_of_mem hr
  exact A.len (h3 j (by omega) hj (by omega)).2
 have hf := jS hl
 refine ⟨by rw [hf, h1], fun j u hu => ?_⟩
 have hj : j < rows.flatten.length := by
  rcases Nat.lt_or_ge j rows.flatten.length with hq | hq
  ·
   exact hq
  rw [List.getElem?_eq_none hq] at hu; simp at hu
 have hm : j % A.n < A.n := Nat.mod_lt _ hn
 have hd : j / A.n < rows.length := by
  rw [hf] at hj
  exact Nat.div_lt_of_lt_mul (by rw [Nat.mul_comm]; exact hj)
 have hjm : j / A.n * A.n + j % A.n = j := by rw [Nat.mul_comm]; exact Nat.div_add_mod j A.n
 have e1 := ab.ku hl (j / A.n) (j % A.n) hd hm
 rw [hjm, hu] at e1
 have e2 := (h3 (j / A.n) (by omega) hd (by omega)).1 (j % A.n) hm
 rw [pY, ← hjm, ← Nat.add_assoc, e2, ← e1]
theorem bN.more {α : Type} {A : ab α} {P : Program} {w : World} {base e : Nat} {v : Value} {rows : List (List Value)} {xs : List α} {bls : List (List Nat)} (hG : bN A w base e v rows xs bls)
  (hone : ∀ {w : World} {row : List Value} {x : α} {bl : List Nat}, A.bp w row x bl → ∀ u ∈ row, u.oneCell' = true) (hn0 : 0 < A.n)
  (t ty : TypeId) (i : TypeInfo) (z : Value) (bytes : Nat) (ht : P.underlying t = some (.slice e)) (hi : P.info? e = some i) (hz : i.zero = some z) (hsize : i.size = A.n) (hby : i.bytes = bytes) (hzs : z.cells.size = A.n)
  {X : Value} {ys : List α} (hX : (ab.sl A).cd w [X] ys 0 base) (hn : xs.length + ys.length ≤ 100000000) (hbytes : bytes ≤ 1000) (hbase : base ≤ w.heap.size) :
  ∃ v' w' rows' bls', (Builtin.append_ #[t, t] ty #[v, X]).run P w = .ok v' w' ∧ bN A w' base e v' rows' (xs ++ ys) bls' ∧ w.grownBy w' v.ownBlock ∧ (v'.ownBlock = v.ownBlock ∨ v'.ownBlock = some w.heap.size) := by
 have hml : xs.length + ys.length ≤ maxLen := by unfold maxLen; omega
 have hbb : (xs.length + ys.length) * bytes ≤ 140737488355328 := by have := Nat.mul_le_mul hn hbytes; omega
 have hown := hG.own
 obtain ⟨bl, ⟨ao, cap, hv, hcap, hcase⟩, hlt⟩ := hX
 obtain rfl : X = .slice ao ys.length cap := by simpa using hv
 rcases hcase with ⟨rfl, rfl⟩ | ⟨b, off, rowsY, blsY, rfl, hb, rfl, hR⟩
 ·
  have key : ∃ v' w', (Builtin.append_ #[t, t] ty #[v, .slice ao 0 cap]).run P w = .ok v' w' ∧ w'.ownsRow base e A.n v' (xs.length + 0) (rows.flatten ++ []) ∧ w.grownBy w' v.ownBlock ∧ (v'.ownBlock = v.ownBlock ∨ v'.ownBlock = some w.heap.size) := by
   cases ao with
   | none =>
    obtain ⟨v', w', r1, r2, r3, -, r5⟩ := run_append_own_at (P := P) w base t ty e i z A.n bytes ht hi hz hsize hby hzs hn0 v xs.length rows.flatten hown ⟨0, 0, none⟩ 0 cap [] (by simp) (by simp) (by simp) hml hbb hbase
    refine ⟨v', w', ?_, r2, r3, r5⟩
    rcases hown.2 with ⟨rfl, h0⟩ | ⟨g, cp, cur, rfl, _, _, hle, _⟩
    ·
     exact (fU _ _ _ i ht hi none 0 0 cap (Nat.le_refl _) w).trans r1
    exact (fU _ _ _ i ht hi _ _ cp cap hle w).trans r1
   | some ad =>
    obtain ⟨v', w', r1, r2, r3, -, r5⟩ := run_append_own_at (P := P) w base t ty e i z A.n bytes ht hi hz hsize hby hzs hn0 v xs.length rows.flatten hown ad 0 cap [] (by simp) (by simp) (by simp) hml hbb hbase
    exact ⟨v', w', r1, r2, r3, r5⟩
  obtain ⟨v', w', r1, r2, r3, r5⟩ := key
  refine ⟨v', w', rows, bls, r1, ?_, r3, r5⟩
  rw [List.append_nil] at r2 ⊢
  have hk : ∀ b ∈ bls.flatten, w'.heap[b]? = w.heap[b]? := fun b hm => r3.block b (hG.sub_lt b hm) (fun e => hG.off b hm e.symm)
  refine ⟨r2, hG.dT, hG.fh, fun j h1 h2 h3 => A.au (hG.bp j h1 h2 h3) fun b hb => hk b (List.mem_flatten.2 ⟨_, List.getElem_mem _, hb⟩), fun b hm e => ?_⟩
  rcases r5 with r5 | r5
  ·
   exact hG.off b hm (r5.symm.trans e)
  rw [r5] at e
  have := hG.sub_lt b hm
  have := Option.some.inj e
  omega
 obtain ⟨hfl, hnews⟩ := oa hn0 hR
 have hR2 := hR
 obtain ⟨q1, q2, q3⟩ := hR2
 obtain ⟨v', w', r1, r2, r3, -, r5⟩ := run_append_own_at (P := P) w base t ty e i z A.n bytes ht hi hz hsize hby hzs hn0 v xs.length rows.flatten hown ⟨b, off, none⟩ ys.length cap rowsY.flatten hfl hnews (fun u hu => by
  obtain ⟨r, hr, hur⟩ := List.mem_flatten.1 hu
  obtain ⟨j, hj, rfl⟩ := List.getElem_of_mem hr
  exact hone (q3 j (by omega) hj (by omega)).2 u hur) hml hbb hbase
 have hkX : ∀ c ∈ blsY.flatten, c < base := fun c hc => (hlt c (List.mem_cons_of_mem _ hc)).2
 have hk : ∀ b ∈ bls.flatten, w'.heap[b]? = w.heap[b]? := fun b hm => r3.block b (hG.sub_lt b hm) (fun e => hG.off b hm e.symm)
 have hk2 : ∀ c ∈ blsY.flatten, w'.heap[c]? = w.heap[c]? := fun c hm => r3.block c (by have := hkX c hm; omega) (fun e => by
  have := (hown.lt c e.symm).1
  have := hkX c hm
  omega)
 refine ⟨v', w', rows ++ rowsY, bls ++ blsY, r1, ⟨?_, by simp [hG.dT, q1], by simp [hG.fh, q2], fun j h1 h2 h3 => ?_, ?_⟩, r3, r5⟩
 ·
  rw [List.flatten_append, List.length_append]
  exact r2
 ·
  by_cases hj : j < xs.length
  ·
   have ee := hG.bp j hj (by have := hG.dT; omega) (by have := hG.fh; omega)
   rw [List.getElem_append_left (by have := hG.dT; omega), List.getElem_append_left hj, List.getElem_append_left (by have := hG.fh; omega)]
   exact A.au ee fun b hm => hk b (List.mem_flatten.2 ⟨_, List.getElem_mem _, hm⟩)
  have n1 := hG.dT
  have n2 := hG.fh
  have n3 : j - xs.length < ys.length := by simp at h1; omega
  rw [List.getElem_append_right (by omega), List.getElem_append_right (by omega), List.getElem_append_right (by omega)]
  have ee := (q3 (j - xs.length) n3 (by omega) (by omega)).2
  simp only [n1, n2]
  exact A.au ee fun b hm => hk2 b (List.mem_flatten.2 ⟨_, List.getElem_mem _, hm⟩)
 intro c hm ee
 rw [List.flatten_append] at hm
 rcases r5 with r5 | r5
 ·
  rcases List.mem_append.1 hm with hm | hm
  ·
   exact hG.off c hm (r5.symm.trans ee)
  have := (hown.lt c (r5.symm.trans ee)).1
  have := hkX c hm
  omega
 rw [r5] at ee
 have := Option.some.inj ee
 rcases List.mem_append.1 hm with hm | hm
 ·
  have := hG.sub_lt c hm
  omega
 have := hkX c hm
 omega
theorem gH {w : World} {base : Nat} {v : Value} {rows : List (List Value)} {xs : List dR} {bls : List (List Nat)} (hG : bN ab.bb w base 150 v rows xs bls) {X : Value} {ys : List dR} (hX : (ab.sl ab.bb).cd w [X] ys 0 base) (hn : xs.length + ys.length ≤ 100000000) (hbase : base ≤ w.heap.size) (ty : TypeId) :
  ∃ v' w' rows' bls', (Builtin.append_ #[31, 31] ty #[v, X]).run Tryz.prog w = .ok v' w' ∧ bN ab.bb w' base 150 v' rows' (xs ++ ys) bls' ∧ w.grownBy w' v.ownBlock ∧ (v'.ownBlock = v.ownBlock ∨ v'.ownBlock = some w.heap.size) := by
 obtain ⟨i0, hi0, hz0, hz1, hz2⟩ := info_parts nx
 exact hG.more (fun h => (rB h).1) (by decide) 31 ty i0 _ 16 Tryz.underlying31 hi0 hz0 hz1 hz2 rfl hX hn (by omega) hbase
theorem dY {w : World} {base : Nat} {v : Value} {rows : List (List Value)} {xs : List dR} {bls : List (List Nat)} (hG : bN ab.bb w base 150 v rows xs bls) {X : Value} {ys : List dR} (hX : (ab.sl ab.bb).cd w [X] ys 0 base) {ops : Array Oper} {rest : List Oper} {o : Oper} {a : Act} {Q : Exit → Act → World → Prop} (hgd : o.guard = none) (s y : Operand)
  (ho : o.op = .call { callee := .builtin .append, args := #[s, y], argTypes := #[31, 31] }) (hs : a.eval s = v) (hy : a.eval y = X) (hn : xs.length + ys.length ≤ 100000000) (hbase : base ≤ w.heap.size)
  (h : ∀ a' m' cap' w' rows' bls', bN ab.bb w' base 150 (.slice a' m' cap') rows' (xs ++ ys) bls' → Below base w w' → m' = xs.length + ys.length → w.heap.size ≤ w'.heap.size → wpList Tryz.prog ops Q rest (a.put o.dst (.slice a' m' cap')) w') :
  wpList Tryz.prog ops Q (o :: rest) a w := by
 refine wpList_plain hgd fun K hK => ?_
 obtain ⟨v', w', rows', bls', hr, h2, h3, h4⟩ := gH hG hX hn hbase o.type
 unfold Oper.wp execOp
 simp only [ho, resolve, invoke, builtin, Sem.run_bind, Sem.run_pure, Result.andThen_ok, List.map_toArray, List.map_cons, List.map_nil, hs, hy, hr]
 have hbw : Below base w w' := (Below.refl _ _).grown h3 hbase (fun j hj => (hG.own.lt j hj).1)
 rcases h2.form with ⟨rfl, h0⟩ | ⟨g, cap, rfl, hg, hgl, hcap⟩
 ·
  refine hK _ _ (h _ _ _ w' rows' bls' h2 hbw ?_ hbw.size)
  have : (xs ++ ys).length = 0 := by rw [h0]; rfl
  rw [List.length_append] at this
  omega
 exact hK _ _ (h _ _ _ w' rows' bls' h2 hbw (by rw [List.length_append]) hbw.size)
theorem rQ {α : Type} {A : ab α} {w : World} {xs : List α} {b off cap n lo hi : Nat} (h : (ab.sl A).aQ w [.slice (some ⟨b, off, none⟩) n cap] xs lo hi) (k : Nat) (hk : k ≤ xs.length) : (ab.sl A).aQ w [.slice (some ⟨b, off, none⟩) k cap] (xs.take k) lo hi := by
 have hl : (xs.take k).length = k := by rw [List.length_take]; omega
 obtain ⟨bl, ⟨⟨ao, cap', he, ⟨h1, h2⟩, hor⟩, hnd, hfz⟩, hr⟩ := h
 simp only [List.cons.injEq, Value.slice.injEq, and_true] at he
 obtain ⟨rfl, rfl, rfl⟩ := he
 rcases hor with ⟨rfl, -⟩ | ⟨b', off', rows, bls, he, hb, rfl, n1, n2, hj⟩
 ·
  obtain rfl : k = 0 := by simpa using hk
  exact ⟨[], ⟨⟨_, _, rfl, ⟨by simp, by simp⟩, Or.inl ⟨rfl, rfl⟩⟩, by simp, by simp⟩, by simp⟩
 simp only [Option.some.injEq, Addr.mk.injEq, and_true] at he
 obtain ⟨rfl, rfl⟩ := he
 have hsub : ∀ c ∈ b :: (bls.take k).flatten, c ∈ b :: bls.flatten := by
  intro c hc
  rcases List.mem_cons.1 hc with rfl | hc
  ·
   simp
  obtain ⟨l, h3, h4⟩ := List.mem_flatten.1 hc
  exact List.mem_cons_of_mem _ (List.mem_flatten.2 ⟨l, List.mem_of_mem_take h3, h4⟩)
 refine ⟨b :: (bls.take k).flatten, ⟨⟨_, _, by rw [hl], ⟨by omega, by omega⟩, Or.inr ⟨b, off, rows.take k, bls.take k, rfl, hb, rfl, by simp [n1], by simp [n2], fun j q1 q2 q3 => ?_⟩⟩, ?_, fun c hc => hfz c (hsub c hc)⟩, fun c hc => hr c (hsub c hc)⟩
 ·
  simp only [List.getElem_take]
  rw [List.length_take] at q1 q2 q3
  exact hj j (by omega) (by omega) (by omega)
 refine List.Nodup.sublist ?_ hnd
 refine List.Sublist.cons_cons _ ?_
 conv => rhs; rw [← List.take_append_drop k bls]
 rw [List.flatten_append]
 exact List.sublist_append_left _ _
theorem fW {α : Type} {A : ab α} {w : World} {xs : List α} {a : Option Addr} {cap n lo hi : Nat} (h : (ab.sl A).cd w [.slice a n cap] xs lo hi) (k : Nat) (hk : k ≤ xs.length) : (ab.sl A).cd w [.slice a k cap] (xs.take k) lo hi := by
 have hl : (xs.take k).length = k := by rw [List.length_take]; omega
 obtain ⟨bl, ⟨ao, cap', he, ⟨h1, h2⟩, hor⟩, hr⟩ := h
 simp only [List.cons.injEq, Value.slice.injEq, and_true] at he
 obtain ⟨rfl, rfl, rfl⟩ := he
 rcases hor with ⟨rfl, -⟩ | ⟨b', off', rows, bls, rfl, hb, rfl, n1, n2, hj⟩
 ·
  obtain rfl : k = 0 := by simpa using hk
  exact ⟨[], ⟨_, _, rfl, ⟨by simp, by simp⟩, Or.inl ⟨rfl, rfl⟩⟩, by simp⟩
 refine ⟨b' :: (bls.take k).flatten, ⟨_, _, by rw [hl], ⟨by omega, by omega⟩, Or.inr ⟨b', off', rows.take k, bls.take k, rfl, hb, rfl, by simp [n1], by simp [n2], fun j q1 q2 q3 => ?_⟩⟩, fun c hc => hr c ?_⟩
 ·
  simp only [List.getElem_take]
  rw [List.length_take] at q1 q2 q3
  exact hj j (by omega) (by omega) (by omega)
 rcases List.mem_cons.1 hc with rfl | hc
 ·
  simp
 obtain ⟨l, h3, h4⟩ := List.mem_flatten.1 hc
 exact List.mem_cons_of_mem _ (List.mem_flatten.2 ⟨l, List.mem_of_mem_take h3, h4⟩)
theorem jd (b off cap : Nat) (ws : List aA) (w : World) (h : (ab.sl ab.ai).Reads w [.slice (some ⟨b, off, none⟩) ws.length cap] ws) (hbl : b < w.heap.size) (hn : ws.length ≤ 200) :
  Calls Tryz.prog 248 #[.slice (some ⟨b, off, none⟩) ws.length cap] w fun e w' => e = .returned (.int .i64 (aY ws)) ∧ w' = w := by
 have HW : Hid (aY ws = cc ws) := by show aY ws = cc ws; rw [aY, if_neg (by omega)]
 have H := yh h
 clear h
 go_enter Tryz.func248, Tryz.ntmps248
 go_wp2_with fail
 go_loop [3] (fun i => ∃ k : Nat, k ≤ ws.length ∧ i = .int .i64 k ∧ (∀ j (hj : j < ws.length), j < k → wF ws[j] = 0)) (fun i => ws.length - (intOf i).toNat)
 case atStart => exact ⟨0, Nat.zero_le _, rfl, fun j _ hj => by omega⟩
 case round =>
  obtain ⟨k, hk, rfl, hz⟩ := hrel
  by_cases hlt : k < ws.length
  ·
   obtain ⟨row, hc, hr⟩ := ab.bm (uh H) hlt
   obtain ⟨a2, d2, rfl, R2⟩ := bk hr
   have c0 : w.cell? ⟨b, off + k * 5, none⟩ = some (.int .i64 (ws[k]).kind) := ((Below.refl w.heap.size w).cell (p := ⟨b, off + k * 5, none⟩) hbl).trans (hc 0 (by decide))
   have c1 : w.cell? ⟨b, off + k * 5 + 1, none⟩ = some (.int .i64 (ws[k]).id) := ((Below.refl w.heap.size w).cell (p := ⟨b, off + k * 5 + 1, none⟩) hbl).trans (hc 1 (by decide))
   have c2 : w.cell? ⟨b, off + k * 5 + 2, none⟩ = some (.slice a2 (ws[k]).vec.length d2) := ((Below.refl w.heap.size w).cell (p := ⟨b, off + k * 5 + 2, none⟩) hbl).trans (hc 2 (by decide))
   have c3 : w.cell? ⟨b, off + k * 5 + 3, none⟩ = some (.int .i64 (ws[k]).aa) := ((Below.refl w.heap.size w).cell (p := ⟨b, off + k * 5 + 3, none⟩) hbl).trans (hc 3 (by decide))
   have c4 : w.cell? ⟨b, off + k * 5 + 4, none⟩ = some (.int .i64 (ws[k]).seq) := ((Below.refl w.heap.size w).cell (p := ⟨b, off + k * 5 + 4, none⟩) hbl).trans (hc 4 (by decide))
   have HZ := yh hz
   have HAT : Hid (wF ws[k] ≠ 0 → aY ws = wF ws[k]) := fun hn => (uh HW).trans (gD ws k hlt hz hn)
   have HZ2 : Hid (wF ws[k] = 0 → ∀ j (hj : j < ws.length), j < k + 1 → wF ws[j] = 0) := by
    intro h0 j hj hjk
    by_cases hjk2 : j < k
    ·
     exact uh HZ j hj hjk2
    obtain rfl : j = k := by omega
    exact h0
   clear hc hr hz HZ
   generalize hx : ws[k] = x at *
   clear hx
   have L := mA b (off + k * 5) x.kind x.id _ x.aa x.seq x.vec w ⟨c0, c1, c2, c3, c4⟩ (ab.bn R2)
   rw [show aK x.kind x.id x.vec x.aa x.seq = wF x from rfl] at L
   have HL := yh L
   clear L R2 c0 c1 c2 c3 c4
   go_wp2_with fail
   refine (uh HL).mono ?_
   rintro e w ⟨rfl, rfl⟩
   by_cases hf : wF x = 0
   ·
    rw [hf]
    have HZ3 := yh (uh HZ2 hf)
    clear hf HZ2 HAT HL
    go_wp2_with fail
    go_round
    case rel => exact ⟨k + 1, by omega, by go_num, uh HZ3⟩
    case measure => simp [intOf]; omega
   have hd : (wF x != 0) = true := by simpa using hf
   have HG := yh (uh HAT hf)
   clear hf HZ2 HAT HL
   go_wp2_with fail
   go_ret
   exact ⟨by rw [uh HG]; rfl, rfl⟩
  have HG : Hid (aY ws = 0) := (uh HW).trans (eo ws fun j hj => hz j hj (by omega))
  clear hz H
  go_wp2_with fail
  go_ret
  exact ⟨by rw [uh HG]; rfl, rfl⟩
theorem m4 (v : Value) (ws : List aA) (w : World) (h : (ab.sl ab.ai).Reads w [v] ws) :
  Calls Tryz.prog 248 #[v] w fun e w' => e = .returned (.int .i64 (aY ws)) ∧ w' = w := by
 obtain ⟨ao, cap, rfl⟩ := aE h
 by_cases hn : ws.length ≤ 200
 ·
  by_cases hp : 0 < ws.length
  ·
   obtain ⟨b, off, rfl, hbl⟩ := ab.aI h hp
   exact jd b off cap ws w h hbl hn
  obtain rfl : ws = [] := List.eq_nil_of_length_eq_zero (by omega)
  clear h hn hp
  go_enter Tryz.func248, Tryz.ntmps248
  go_wp2_with fail
  refine wp_loop_rounds 1 ?_
  rw [rounds_succ]
  go_wp2_with fail
  go_ret
  exact ⟨rfl, rfl⟩
 have e : aY ws = 2 := by rw [aY, if_pos (by omega)]
 rw [e]
 have hd : decide ((200 : Int) < (ws.length : Int)) = true := by simp; omega
 clear h e
 go_enter Tryz.func248, Tryz.ntmps248
 go_wp2_with fail
 go_ret
 exact ⟨rfl, rfl⟩
theorem sA (x y : Int) (w : World) : Calls Tryz.prog 282 #[.int .i64 x, .int .i64 y] w fun e w' => e = .returned (.int .i64 (max x y)) ∧ w' = w := by
 by_cases h : y < x
 ·
  have d : decide (y < x) = true := by simpa using h
  have e : max x y = x := by omega
  rw [e]
  go_enter Tryz.func282, Tryz.ntmps282
  go_wp2
  go_ret
  exact ⟨rfl, rfl⟩
 have d : decide (y < x) = false := by simpa using h
 have e : max x y = y := by omega
 rw [e]
 go_enter Tryz.func282, Tryz.ntmps282
 go_wp2
 go_ret
 exact ⟨rfl, rfl⟩
theorem nw (b off cap : Nat) (ws : List aA) (s : Int) (w : World) (h : (ab.sl ab.ai).Reads w [.slice (some ⟨b, off, none⟩) ws.length cap] ws) (hbl : b < w.heap.size) (hn : ws.length ≤ 10000000) :
  Calls Tryz.prog 273 #[.slice (some ⟨b, off, none⟩) ws.length cap, .int .i64 s] w fun e w' => e = .returned (.int .i64 (aV ws s)) ∧ w' = w := by
 have H := yh h
 clear h
 go_enter Tryz.func273, Tryz.ntmps273
 go_wp2_with fail
 go_loop [5, 6] (fun m i => ∃ k : Nat, k ≤ ws.length ∧ i = .int .i64 k ∧ m = .int .i64 (aV (ws.take k) s)) (fun _ i => ws.length - (intOf i).toNat)
 case atStart => exact ⟨0, Nat.zero_le _, rfl, rfl⟩
 case round =>
  obtain ⟨k, hk, rfl, rfl⟩ := hrel
  by_cases hlt : k < ws.length
  ·
   obtain ⟨row, hc, hr⟩ := ab.bm (uh H) hlt
   obtain ⟨a2, d2, rfl, R2⟩ := bk hr
   have c3 : w.cell? ⟨b, off + k * 5 + 3, none⟩ = some (.int .i64 (ws[k]).aa) := hc 3 (by decide)
   have c4 : w.cell? ⟨b, off + k * 5 + 4, none⟩ = some (.int .i64 (ws[k]).seq) := hc 4 (by decide)
   have HT := yh (iS ws k hlt s)
   clear hc hr R2
   generalize hx : ws[k] = x at *
   clear hx
   by_cases hs : x.aa = s
   ·
    have ds : (x.aa == s) = true := by simpa using hs
    have HL := yh (fun W => sA (aV (ws.take k) s) x.seq W)
    have HT2 : Hid (aV (ws.take (k + 1)) s = max (aV (ws.take k) s) x.seq) := by
     have := uh HT
     rw [if_pos hs] at this
     exact this
    clear HT hs
    generalize hl : aV (ws.take k) s = l at *
    clear hl
    go_wp2_with fail
    refine (uh HL _).mono ?_
    rintro e w2 ⟨rfl, rfl⟩
    go_wp2_with fail
    go_round
    case rel => exact ⟨k + 1, by omega, by go_num, by rw [uh HT2]⟩
    case measure => simp [intOf]; omega
   have ds : (x.aa == s) = false := by simpa using hs
   have HT2 : Hid (aV (ws.take (k + 1)) s = aV (ws.take k) s) := by
    have := uh HT
    rw [if_neg hs] at this
    exact this
   clear HT hs
   go_wp2_with fail
   go_round
   case rel => exact ⟨k + 1, by omega, by go_num, by rw [uh HT2]⟩
   case measure => simp [intOf]; omega
  obtain rfl : k = ws.length := by omega
  rw [List.take_length]
  clear H
  go_wp2_with fail
  go_ret
  exact ⟨rfl, rfl⟩
theorem ra (v : Value) (ws : List aA) (s : Int) (w : World) (h : (ab.sl ab.ai).Reads w [v] ws) (hn : ws.length ≤ 10000000) :
  Calls Tryz.prog 273 #[v, .int .i64 s] w fun e w' => e = .returned (.int .i64 (aV ws s)) ∧ w' = w := by
 obtain ⟨ao, cap, rfl⟩ := aE h
 by_cases hp : 0 < ws.length
 ·
  obtain ⟨b, off, rfl, hbl⟩ := ab.aI h hp
  exact nw b off cap ws s w h hbl hn
 obtain rfl : ws = [] := List.eq_nil_of_length_eq_zero (by omega)
 clear h hn hp
 go_enter Tryz.func273, Tryz.ntmps273
 go_wp2_with fail
 refine wp_loop_rounds 1 ?_
 rw [rounds_succ]
 go_wp2_with fail
 go_ret
 exact ⟨rfl, rfl⟩
theorem qZ {α : Type} {A : ab α} {w : World} {xs : List α} {b off cap : Nat} (h : (ab.sl A).Reads w [.slice (some ⟨b, off, none⟩) xs.length cap] xs) (k : Nat) (hk : k ≤ xs.length) : (ab.sl A).Reads w [.slice (some ⟨b, off, none⟩) k cap] (xs.take k) := by
 have hl : (xs.take k).length = k := by rw [List.length_take]; omega
 obtain ⟨bl, ao, cap', he, ⟨h1, h2⟩, hor⟩ := h
 simp only [List.cons.injEq, Value.slice.injEq, true_and, and_true] at he
 obtain ⟨rfl, rfl⟩ := he
 rcases hor with ⟨rfl, -⟩ | ⟨b', off', rows, bls, he, hb, -, n1, n2, hj⟩
 ·
  obtain rfl : k = 0 := by simpa using hk
  exact ⟨[], _, _, rfl, ⟨by simp, by simp⟩, Or.inl ⟨rfl, rfl⟩⟩
 simp only [Option.some.injEq, Addr.mk.injEq, and_true] at he
 obtain ⟨rfl, rfl⟩ := he
 refine ⟨b :: (bls.take k).flatten, _, _, by rw [hl], ⟨by omega, by omega⟩, Or.inr ⟨b, off, rows.take k, bls.take k, rfl, hb, rfl, by simp [n1], by simp [n2], fun j q1 q2 q3 => ?_⟩⟩
 simp only [List.getElem_take]
 rw [List.length_take] at q1 q2 q3
 exact hj j (by omega) (by omega) (by omega)
theorem nt (b off cap : Nat) (ws : List aA) (w : World) (h : (ab.sl ab.ai).Reads w [.slice (some ⟨b, off, none⟩) ws.length cap] ws) (hn : ws.length ≤ 10000000) :
  Calls Tryz.prog 249 #[.slice (some ⟨b, off, none⟩) ws.length cap] w fun e w' => e = .returned (.bool (cP [] ws)) ∧ Below w.heap.size w w' := by
 have H := yh h
 have hcap : ws.length ≤ cap := by obtain ⟨bl, ao, cap', he, ⟨h1, h2⟩, hor⟩ := h; simp only [List.cons.injEq, Value.slice.injEq, true_and, and_true] at he; omega
 clear h
 go_enter Tryz.func249, Tryz.ntmps249
 go_wp2_with fail
 go_loopw [3] (fun i wr => ∃ k : Nat, k ≤ ws.length ∧ i = .int .i64 k ∧ (∀ j (hj : j < ws.length), j < k → aV ([] ++ ws.take j) (ws[j]).aa < (ws[j]).seq) ∧ Below w.heap.size w wr) (fun i _ => ws.length - (intOf i).toNat)
 case atStart => exact ⟨0, Nat.zero_le _, rfl, fun j _ hj => by omega, Below.refl _ _⟩
 case round =>
  obtain ⟨k, hk, rfl, hz, hB⟩ := hrel
  by_cases hlt : k < ws.length
  ·
   obtain ⟨row, hc, hr⟩ := ab.bm ((uh H).ag hB) hlt
   obtain ⟨a2, d2, rfl, R2⟩ := bk hr
   have c3 : wr.cell? ⟨b, off + k * 5 + 3, none⟩ = some (.int .i64 (ws[k]).aa) := hc 3 (by decide)
   have c4 : wr.cell? ⟨b, off + k * 5 + 4, none⟩ = some (.int .i64 (ws[k]).seq) := hc 4 (by decide)
   have HP : Hid ((ab.sl ab.ai).Reads wr.drew [.slice (some ⟨b, off, none⟩) k cap] (ws.take k)) := qZ ((uh H).ag hB.drew) k hk
   have HAT : Hid ((ws[k]).seq ≤ aV (ws.take k) (ws[k]).aa → cP [] ws = false) := fun he => jm ws [] k hlt (by simpa using he)
   have HZ2 : Hid (aV (ws.take k) (ws[k]).aa < (ws[k]).seq → ∀ j (hj : j < ws.length), j < k + 1 → aV ([] ++ ws.take j) (ws[j]).aa < (ws[j]).seq) := by
    intro h0 j hj hjk
    by_cases hjk2 : j < k
    ·
     exact hz j hj hjk2
    obtain rfl : j = k := by omega
    simpa using h0
   have HB := yh hB
   clear hc hr R2 hz hB
   generalize hx : ws[k] = x at *
   clear hx
   have c3 : wr.drew.cell? ⟨b, off + k * 5 + 3, none⟩ = some (.int .i64 x.aa) := c3
   have c4 : wr.drew.cell? ⟨b, off + k * 5 + 4, none⟩ = some (.int .i64 x.seq) := c4
   have i1 : (0 : Int) ≤ (k : Int) := by omega
   have i2 : (k : Int) < (ws.length : Int) := by omega
   have i3 : (k : Int) ≤ (cap : Int) := by omega
   go_wp2_with fail
   refine wZz (fun w' => w' = wr.drew) rfl (fun zq => ?_)
   refine tkH 0 zq ?_
   refine tkH 1 zq ?_
   refine tkJ 2 (v := ?v2) ?h2 zq ?r2
   case h2 =>
    intro wS hSw
    have y3 : wS.cell? ⟨b, off + k * 5 + 3, none⟩ = some (.int .i64 x.aa) := by rw [hSw]; exact c3
    have y4 : wS.cell? ⟨b, off + k * 5 + 4, none⟩ = some (.int .i64 x.seq) := by rw [hSw]; exact c4
    clear hSw
    exact fZ
   refine tkH 3 zq ?_
   refine tkH 4 zq ?_
   refine tkJ 5 (v := ?v5) ?h5 zq ?r5
   case h5 =>
    intro wS hSw
    have y3 : wS.cell? ⟨b, off + k * 5 + 3, none⟩ = some (.int .i64 x.aa) := by rw [hSw]; exact c3
    have y4 : wS.cell? ⟨b, off + k * 5 + 4, none⟩ = some (.int .i64 x.seq) := by rw [hSw]; exact c4
    clear hSw
    exact fZ
   refine tkH 6 zq ?_
   refine tkJ 7 (v := ?v7) ?h7 zq ?r7
   case h7 =>
    intro wS hSw
    have y3 : wS.cell? ⟨b, off + k * 5 + 3, none⟩ = some (.int .i64 x.aa) := by rw [hSw]; exact c3
    have y4 : wS.cell? ⟨b, off + k * 5 + 4, none⟩ = some (.int .i64 x.seq) := by rw [hSw]; exact c4
    clear hSw
    exact fZ
   refine tkH 9 zq ?_
   refine tkH 10 zq ?_
   refine tkJ 11 (v := ?v11) ?h11 zq ?r11
   case h11 =>
    intro wS hSw
    have y3 : wS.cell? ⟨b, off + k * 5 + 3, none⟩ = some (.int .i64 x.aa) := by rw [hSw]; exact c3
    have y4 : wS.cell? ⟨b, off + k * 5 + 4, none⟩ = some (.int .i64 x.seq) := by rw [hSw]; exact c4
    clear hSw
    exact fZ
   refine tkH 12 zq ?_
   refine tkJ 13 (v := ?v13) ?h13 zq ?r13
   case h13 =>
    intro wS hSw
    have y3 : wS.cell? ⟨b, off + k * 5 + 3, none⟩ = some (.int .i64 x.aa) := by rw [hSw]; exact c3
    have y4 : wS.cell? ⟨b, off + k * 5 + 4, none⟩ = some (.int .i64 x.seq) := by rw [hSw]; exact c4
    clear hSw
    exact fZ
   refine rdH 8 (fun K hK => ?_)
   go_simp
   go_at_call 273
   refine (ra _ (ws.take k) x.aa _ (uh HP) (by rw [List.length_take]; omega)).mono ?_
   rintro e w3 ⟨rfl, rfl⟩
   try go_wp2_with fail
   refine hK.out _ _ rfl (fun zq => ?_)
   clear hK K
   try simp only [Act.put, pz, py, px]
   refine tkH 14 zq ?_
   refine dZ ?_
   clear zq c3 c4
   by_cases hq : x.seq ≤ aV (ws.take k) x.aa
   ·
    have hd : decide (x.seq ≤ aV (ws.take k) x.aa) = true := by simpa using hq
    have HG := yh (uh HAT hq)
    have HB2 := yh (uh HB).drew
    clear hq HAT HZ2 HP
    rw [hd]
    go_wp2_with fail
    go_ret
    exact ⟨by rw [uh HG]; first | done | rfl, uh HB2⟩
   ·
    have hd : decide (x.seq ≤ aV (ws.take k) x.aa) = false := by simpa using hq
    have HZ := yh (uh HZ2 (by omega))
    have HB2 := yh (uh HB).drew
    clear hq HAT HZ2 HP
    rw [hd]
    go_wp2_with fail
    go_roundw
    case rel => exact ⟨k + 1, by omega, by go_num, uh HZ, uh HB2⟩
    case measure => simp [intOf]; omega
  obtain rfl : k = ws.length := by omega
  have HG : Hid (cP [] ws = true) := gN ws [] fun j hj => hz j hj hj
  have HB := yh hB
  clear H hz hB
  go_wp2_with fail
  go_ret
  exact ⟨by rw [uh HG]; first | done | rfl, uh HB⟩
theorem rK (v : Value) (ws : List aA) (w : World) (h : (ab.sl ab.ai).Reads w [v] ws) (hn : ws.length ≤ 10000000) :
  Calls Tryz.prog 249 #[v] w fun e w' => e = .returned (.bool (cP [] ws)) ∧ Below w.heap.size w w' := by
 obtain ⟨ao, cap, rfl⟩ := aE h
 by_cases hp : 0 < ws.length
 ·
  obtain ⟨b, off, rfl, -⟩ := ab.aI h hp
  exact nt b off cap ws w h hn
 obtain rfl : ws = [] := List.eq_nil_of_length_eq_zero (by omega)
 clear h hn hp
 go_enter Tryz.func249, Tryz.ntmps249
 go_wp2_with fail
 refine wp_loop_rounds 1 ?_
 rw [rounds_succ]
 go_wp2_with fail
 go_ret
 exact ⟨rfl, Below.refl _ _⟩
end Go.Proofs.YtecagllmonckgaaGreat

namespace Go.Proofs.YtecagllmonckgaaGreat
end Go.Proofs.YtecagllmonckgaaGreat

namespace Go.Proofs.YtecagllmonckgaaGreat
open Go.RowKit
theorem gu : (Tryz.prog.info? 142).map (fun i => (i.zero, i.size, i.bytes)) = some (some (.agg #[.int .i64 0, .int .i64 0, .slice none 0 0, .int .i64 0, .int .i64 0]), 5, 56) := by kernel_rfl
theorem jN {w : World} {row : List Value} {x : aA} {bl : List Nat} (h : ab.ai.bp w row x bl) : (∀ u ∈ row, u.oneCell' = true) ∧ row.length = 1 * 5 := by
 obtain ⟨_, _, _, rfl, -⟩ := cg.1 h
 simp [Value.oneCell']
theorem fH {w1 : World} {base : Nat} {v : Value} {rows : List (List Value)} {xs : List aA} {bls : List (List Nat)} (hG : bN ab.ai w1 base 142 v rows xs bls) {row : List Value} {x : aA} {bl : List Nat} (hl : ab.ai.bp w1 row x bl) (hbl : ∀ b ∈ bl, v.ownBlock ≠ some b) {ops : Array Oper} {rest : List Oper} {o : Oper} {a : Act} {Q : Exit → Act → World → Prop} (hgd : o.guard = none) (s y : Operand)
  (ho : o.op = .call { callee := .builtin .append, args := #[s, y], argTypes := #[77, 77] }) (hs : a.eval s = v) (hy : a.eval y = .slice (some ⟨w1.heap.size, 0, none⟩) 1 1) (hn : xs.length + 1 ≤ 100000000) (hbase : base ≤ w1.heap.size)
  (h : ∀ g cap w', bN ab.ai w' base 142 (.slice (some ⟨g, 0, none⟩) (xs.length + 1) cap) (rows ++ [row]) (xs ++ [x]) (bls ++ [bl]) → Below base w1 w' → Ext (fun q => v.ownBlock = some q) w1 w' → g < w'.heap.size → w1.heap.size ≤ w'.heap.size → (v.ownBlock = some g ∨ w1.heap.size ≤ g) → wpList Tryz.prog ops Q rest (a.put o.dst (.slice (some ⟨g, 0, none⟩) (xs.length + 1) cap)) w') :
  wpList Tryz.prog ops Q (o :: rest) a (w1.alloc (.cells row.toArray 142)) := by
 obtain ⟨i0, hi0, hz0, hz1, hz2⟩ := info_parts gu
 obtain ⟨h1, hlen⟩ := jN hl
 refine wpList_append_lies _ hgd s y 77 ho base 142 i0 _ 5 56 Tryz.underlying77 hi0 hz0 hz1 hz2 rfl (by omega) v xs.length rows.flatten hs (hG.own.alloc _) ⟨w1.heap.size, 0, none⟩ 1 1 row hy hlen (World.news_of_block (cs := row.toArray) (t := 142) (fr := (0, 0)) (heap_alloc_new w1 _)) h1 (by omega) (by unfold maxLen; omega) (by omega) (by simp; omega) (w1.alloc (.cells row.toArray 142)).heap.size rfl ?_
 intro g cap w' h2 h3 h4 h5
 have hg := dy h3
 have hbw : Below base w1 w' := (Below.refl _ _).grown hg hbase (fun j hj => (hG.own.lt j hj).1)
 have hor : v.ownBlock = some g ∨ w1.heap.size ≤ g := by
  rcases h4 with h4 | h4
  ·
   exact Or.inl h4
  exact Or.inr (by rw [h4]; simp)
 exact h g cap w' (hG.snoc hl hbl h2 hg hor) hbw ⟨hbw.os, hbw.tape, hbw.output, hbw.size, fun k hk hn => hg.block k hk (fun e => hn e.symm)⟩ h5 hbw.size hor
theorem gl {w1 : World} {base : Nat} {v : Value} {rows : List (List Value)} {xs : List aA} {bls : List (List Nat)} (hG : bN ab.ai w1 base 142 v rows xs bls) {row : List Value} {x : aA} {bl : List Nat} (hl : ab.ai.bp w1 row x bl) (hbl : ∀ b ∈ bl, v.ownBlock ≠ some b) {ops : Array Oper} {o : Oper} {a : Act} {K : Act → World → Prop} {Q : Exit → Act → World → Prop} {E : Prop} (hgd : o.guard = none) (s y : Operand)
  (ho : o.op = .call { callee := .builtin .append, args := #[s, y], argTypes := #[77, 77] }) (hs : a.eval s = v) (hy : a.eval y = .slice (some ⟨w1.heap.size, 0, none⟩) 1 1) (hn : xs.length + 1 ≤ 100000000) (hbase : base ≤ w1.heap.size)
  (h : ∀ g cap w', bN ab.ai w' base 142 (.slice (some ⟨g, 0, none⟩) (xs.length + 1) cap) (rows ++ [row]) (xs ++ [x]) (bls ++ [bl]) → Below base w1 w' → Ext (fun q => v.ownBlock = some q) w1 w' → g < w'.heap.size → w1.heap.size ≤ w'.heap.size → (v.ownBlock = some g ∨ w1.heap.size ≤ g) → K (a.put o.dst (.slice (some ⟨g, 0, none⟩) (xs.length + 1) cap)) w') :
  if Region.wanted o (yielded ops a.tmps) = true then Oper.wp Tryz.prog o a (w1.alloc (.cells row.toArray 142)) K Q else E := by
 obtain ⟨i0, hi0, hz0, hz1, hz2⟩ := info_parts gu
 obtain ⟨h1, hlen⟩ := jN hl
 refine step_append_lies _ hgd s y 77 ho base 142 i0 _ 5 56 Tryz.underlying77 hi0 hz0 hz1 hz2 rfl (by omega) v xs.length rows.flatten hs (hG.own.alloc _) ⟨w1.heap.size, 0, none⟩ 1 1 row hy hlen (World.news_of_block (cs := row.toArray) (t := 142) (fr := (0, 0)) (heap_alloc_new w1 _)) h1 (by omega) (by unfold maxLen; omega) (by omega) (by simp; omega) (w1.alloc (.cells row.toArray 142)).heap.size rfl ?_
 intro g cap w' h2 h3 h4 h5
 have hg := dy h3
 have hbw : Below base w1 w' := (Below.refl _ _).grown hg hbase (fun j hj => (hG.own.lt j hj).1)
 have hor : v.ownBlock = some g ∨ w1.heap.size ≤ g := by
  rcases h4 with h4 | h4
  ·
   exact Or.inl h4
  exact Or.inr (by rw [h4]; simp)
 exact h g cap w' (hG.snoc hl hbl h2 hg hor) hbw ⟨hbw.os, hbw.tape, hbw.output, hbw.size, fun k hk hn => hg.block k hk (fun e => hn e.symm)⟩ h5 hbw.size hor
end Go.Proofs.YtecagllmonckgaaGreat
