/-
  Texts of this proof in one: SpecMsgF, SpecNetF, SpecWF, SpecComm, AppItem, SpecIntsB, SpecCopy, SpecSet, SpecSet2, SpecTab, SpecAt4, SpecAt, SpecAsk, SpecApply, SpecTOf, OwnNodeResult, NodeKitP.
  Their conditions stand in their theorems.
-/
import Derived.Test.YtoanimpijfijgaaGreatChecked
import Derived.Test.YtoanimpijfijgaaGreatSi06
import Derived.Test.YtoanimpijfijgaaGreatSi10
import Derived.Test.YtoanimpijfijgaaGreatSi01
import Derived.Deep.RegionHeld3
import Derived.Deep.CutRange
import Derived.Test.YtoanimpijfijgaaGreatSi00
import Derived.Test.YtoanimpijfijgaaGreatSi09
import Derived.Deep.QuietTactic
import Derived.BigQuiet
import Derived.Test.YtoanimpijfijgaaGreatSi07
import Derived.Test.YtoanimpijfijgaaGreatSi08
import Derived.WalkSmall
import Derived.Test.YtoanimpijfijgaaGreatSi04
set_option maxRecDepth 100000
set_option maxHeartbeats 4000000
namespace Go.Proofs.YtoanimpijfijgaaGreat
open Go.RowKit
def MsgAt (w : World) (b o : Nat) (x : DMsg) (v : Value) : Prop :=
 w.cell? ⟨b, o, none⟩ = some (.int .i64 x.kind) ∧ w.cell? ⟨b, o + 1, none⟩ = some (.int .i64 x.epoch) ∧ w.cell? ⟨b, o + 2, none⟩ = some (.int .i64 x.src) ∧ w.cell? ⟨b, o + 3, none⟩ = some (.int .i64 x.dst) ∧ w.cell? ⟨b, o + 4, none⟩ = some (.int .i64 x.index) ∧ w.cell? ⟨b, o + 5, none⟩ = some (.int .i64 x.write.kind) ∧ w.cell? ⟨b, o + 5 + 1, none⟩ = some (.int .i64 x.write.id) ∧ w.cell? ⟨b, o + 5 + 2, none⟩ = some (v) ∧ w.cell? ⟨b, o + 5 + 3, none⟩ = some (.int .i64 x.write.session) ∧ w.cell? ⟨b, o + 5 + 4, none⟩ = some (.int .i64 x.write.seq)
theorem noW_f0 {y : DWrite} (h : (y.kind == 0) = false) : decide (noW y) = false := by
 rw [decide_eq_false_iff_not]; intro q; rw [q.1] at h; simp at h
theorem noW_f1 {y : DWrite} (h : (y.id == 0) = false) : decide (noW y) = false := by
 rw [decide_eq_false_iff_not]; intro q; rw [q.2.1] at h; simp at h
theorem noW_f2 {y : DWrite} (h : (y.session == 0) = false) : decide (noW y) = false := by
 rw [decide_eq_false_iff_not]; intro q; rw [q.2.2.1] at h; simp at h
theorem noW_f3 {y : DWrite} (h : (y.seq == 0) = false) : decide (noW y) = false := by
 rw [decide_eq_false_iff_not]; intro q; rw [q.2.2.2.1] at h; simp at h
theorem noW_f4 {y : DWrite} (h : ((y.vec.length : Int) == 0) = false) : decide (noW y) = false := by
 rw [decide_eq_false_iff_not]; intro q; rw [q.2.2.2.2] at h; simp at h
theorem noW_t {y : DWrite} (h0 : (y.kind == 0) = true) (h1 : (y.id == 0) = true) (h2 : (y.session == 0) = true) (h3 : (y.seq == 0) = true) (h4 : ((y.vec.length : Int) == 0) = true) : decide (noW y) = true := by
 rw [decide_eq_true_iff]
 simp only [beq_iff_eq] at h0 h1 h2 h3 h4
 exact ⟨h0, h1, h2, h3, by omega⟩
theorem mf_kind {x : DMsg} (h : (decide (1 ≤ x.kind) && decide (x.kind ≤ 2)) = false) : msgFault x = 1 := by
 rw [msgFault, if_pos (Or.inl (by simpa using h))]
theorem mf_self {x : DMsg} (h : (x.src == x.dst) = true) : msgFault x = 1 := by
 rw [msgFault, if_pos (Or.inr (Or.inl (beq_iff_eq.1 h)))]
theorem mf_ack {x : DMsg} (h : (x.kind == 2) = true) (h2 : decide (noW x.write) = false) : msgFault x = 1 := by
 rw [msgFault, if_pos (Or.inr (Or.inr ⟨beq_iff_eq.1 h, decide_eq_false_iff_not.1 h2⟩))]
def mfRest (x : DMsg) : Int := if ¬ (1 ≤ x.epoch ∧ x.epoch ≤ 999) ∨ ¬ (1 ≤ x.src ∧ x.src ≤ 5) ∨ ¬ (1 ≤ x.dst ∧ x.dst ≤ 5) ∨ ¬ (0 ≤ x.index ∧ x.index ≤ 40) ∨ (x.kind ≠ 2 ∧ x.index = 0) then 3
 else if x.kind = 2 then 0 else wF x.write
theorem mf_rest1 {x : DMsg} (h : (decide (1 ≤ x.kind) && decide (x.kind ≤ 2)) = true) (h1 : (x.src == x.dst) = false) (h2 : (x.kind == 2) = false) : msgFault x = mfRest x := by
 rw [msgFault, if_neg, mfRest]
 simp at h h1 h2
 rintro (q | q | q)
 ·
  exact q h
 ·
  exact h1 q
 exact h2 q.1
theorem mf_rest2 {x : DMsg} (h : (decide (1 ≤ x.kind) && decide (x.kind ≤ 2)) = true) (h1 : (x.src == x.dst) = false) (h2 : decide (noW x.write) = true) : msgFault x = mfRest x := by
 rw [msgFault, if_neg, mfRest]
 simp at h h1 h2
 rintro (q | q | q)
 ·
  exact q h
 ·
  exact h1 q
 exact q.2 h2
theorem mr_epoch {x : DMsg} (h : (decide (1 ≤ x.epoch) && decide (x.epoch ≤ 999)) = false) : mfRest x = 3 := by
 rw [mfRest, if_pos (Or.inl (by simpa using h))]
theorem mr_src {x : DMsg} (h : (decide (1 ≤ x.src) && decide (x.src ≤ 5)) = false) : mfRest x = 3 := by
 rw [mfRest, if_pos (Or.inr (Or.inl (by simpa using h)))]
theorem mr_dst {x : DMsg} (h : (decide (1 ≤ x.dst) && decide (x.dst ≤ 5)) = false) : mfRest x = 3 := by
 rw [mfRest, if_pos (Or.inr (Or.inr (Or.inl (by simpa using h))))]
theorem mr_index {x : DMsg} (h : (decide (0 ≤ x.index) && decide (x.index ≤ 40)) = false) : mfRest x = 3 := by
 rw [mfRest, if_pos (Or.inr (Or.inr (Or.inr (Or.inl (by simpa using h)))))]
theorem mr_zero {x : DMsg} (h : (x.kind == 2) = false) (h2 : (x.index == 0) = true) : mfRest x = 3 := by
 rw [mfRest, if_pos (Or.inr (Or.inr (Or.inr (Or.inr ⟨by simpa using h, by simpa using h2⟩))))]
theorem mr_ok {x : DMsg} (h0 : (decide (1 ≤ x.epoch) && decide (x.epoch ≤ 999)) = true) (h1 : (decide (1 ≤ x.src) && decide (x.src ≤ 5)) = true) (h2 : (decide (1 ≤ x.dst) && decide (x.dst ≤ 5)) = true) (h3 : (decide (0 ≤ x.index) && decide (x.index ≤ 40)) = true) (h4 : (x.kind == 2) = true ∨ (x.index == 0) = false) : mfRest x = if x.kind = 2 then 0 else wF x.write := by
 rw [mfRest, if_neg]
 simp at h0 h1 h2 h3 h4
 rintro (q | q | q | q | q)
 ·
  exact q h0
 ·
  exact q h1
 ·
  exact q h2
 ·
  exact q h3
 rcases h4 with h4 | h4
 ·
  exact q.1 h4
 exact h4 q.2
theorem write_vec {w : World} {y : DWrite} {a : Option Addr} {d : Nat} (h : Lay.tWrite.Reads w [.int .i64 y.kind, .int .i64 y.id, .slice a y.vec.length d, .int .i64 y.session, .int .i64 y.seq] y) : (Lay.sl Lay.int).Reads w [.slice a y.vec.length d] y.vec := by
 obtain ⟨a2, d2, e, R⟩ := open_Write h
 simp only [List.cons.injEq, Value.slice.injEq, and_true, true_and] at e
 obtain ⟨rfl, rfl⟩ := e
 exact R
theorem l11MsgC (b o : Nat) (a : Option Addr) (d : Nat) (x : DMsg) (w : World) (hM : MsgAt w b o x (.slice a x.write.vec.length d)) (R : (Lay.sl Lay.int).Reads w [.slice a x.write.vec.length d] x.write.vec) :
  Calls Tryz.prog 244 #[.pointer (some ⟨b, o, none⟩)] w fun e w' => e = .returned (.int .i64 (msgFault x)) ∧ Below w.heap.size w w' := by
 have hbig := R.big
 have H := yh R
 have HM := yh hM
 obtain ⟨c0, c1, c2, c3, c4, c5, c6, c7, c8, c9⟩ := hM
 have hb := World.block_lt_of_cell? _ _ c0
 clear R
 go_enter Tryz.func244, Tryz.ntmps244
 go_upto_region 2 with fail
 go_cut [4] from 10 to 48 (fun s4 wx => s4 = .bool (decide (noW x.write)) ∧ wx = w)
 case first =>
  cases e0 : (x.write.kind == 0)
  ·
   have HF := yh (noW_f0 e0)
   go_wp2_with fail
   go_meet
   exact ⟨by rw [uh HF], rfl⟩
  cases e1 : (x.write.id == 0)
  ·
   have HF := yh (noW_f1 e1)
   go_wp2_with fail
   go_meet
   exact ⟨by rw [uh HF], rfl⟩
  cases e2 : (x.write.session == 0)
  ·
   have HF := yh (noW_f2 e2)
   go_wp2_with fail
   go_meet
   exact ⟨by rw [uh HF], rfl⟩
  cases e3 : (x.write.seq == 0)
  ·
   have HF := yh (noW_f3 e3)
   go_wp2_with fail
   go_meet
   exact ⟨by rw [uh HF], rfl⟩
  cases e4 : ((x.write.vec.length : Int) == 0)
  ·
   have HF := yh (noW_f4 e4)
   go_wp2_with fail
   go_meet
   exact ⟨by rw [uh HF], rfl⟩
  have HF := yh (noW_t e0 e1 e2 e3 e4)
  go_wp2_with fail
  go_meet
  exact ⟨by rw [uh HF], rfl⟩
 case rest =>
  obtain ⟨rfl, hwc⟩ := hcut
  subst hwc
  cases d1 : (decide (1 ≤ x.kind) && decide (x.kind ≤ 2))
  ·
   have HF := yh (mf_kind d1)
   go_upto_region 3 with fail
   refine wp_region_noPanic ?_
   refine wp_region_held_drew (S := fun w' => Below wc.heap.size wc w') (by kernel_rfl) (Below.refl _ _).drew (fun zq => ?_)
   generalize wc.drew = wD at zq ⊢
   refine tkH 0 zq ?_
   refine tkH 1 zq ?_
   refine tkH 2 zq ?_
   refine tkJ 3 (v := ?va3_4) ?ha3_4 zq ?ra3_4
   case ha3_4 =>
    intro wS hSw
    have q0 := (hSw.cell (p := ⟨b, o, none⟩) hb).trans c0
    clear hSw
    (try dsimp only at hSw)
    go_simp
    try with_reducible rfl
   refine rdH 4 (fun K hK => ?_)
   go_simp
   go_at_call 64
   refine (inC x.kind 1 2 _).mono ?_
   rintro e w1 ⟨rfl, h1⟩
   subst w1
   rw [d1]
   try go_wp2_with fail
   refine hK.out _ _ zq (fun zq => ?_)
   clear hK K
   try simp only [Act.put, pz, py, px]
   refine tkH 5 zq ?_
   refine tkH 6 zq ?_
   refine skH 7 zq ?_
   refine skH 8 zq ?_
   refine skH 9 zq ?_
   refine skH 10 zq ?_
   refine skH 11 zq ?_
   refine skH 12 zq ?_
   refine skH 13 zq ?_
   refine skH 14 zq ?_
   refine skH 15 zq ?_
   refine tkH 16 zq ?_
   refine tkH 17 zq ?_
   refine skH 18 zq ?_
   refine skH 19 zq ?_
   refine skH 20 zq ?_
   refine skH 21 zq ?_
   refine skH 22 zq ?_
   refine tkH 23 zq ?_
   refine wpAnyH_done (by kernel_rfl) ?_ _
   refine NoPanic.normal ?_
   have HB9 := yh zq
   clear zq
   go_wp2_with fail
   go_ret
   exact ⟨by rw [uh HF]; rfl, uh HB9⟩
  cases e1 : (x.src == x.dst)
  ·
   cases e2 : (x.kind == 2)
   ·
    have HRS := yh (mf_rest1 d1 e1 e2)
    go_upto_region 3 with fail
    refine wp_region_noPanic ?_
    refine wp_region_held_drew (S := fun w' => Below wc.heap.size wc w') (by kernel_rfl) (Below.refl _ _).drew (fun zq => ?_)
    generalize wc.drew = wD at zq ⊢
    refine tkH 0 zq ?_
    refine tkH 1 zq ?_
    refine tkH 2 zq ?_
    refine tkJ 3 (v := ?vc3_4) ?hc3_4 zq ?rc3_4
    case hc3_4 =>
     intro wS hSw
     have q0 := (hSw.cell (p := ⟨b, o, none⟩) hb).trans c0
     clear hSw
     (try dsimp only at hSw)
     go_simp
     try with_reducible rfl
    refine rdH 4 (fun K hK => ?_)
    go_simp
    go_at_call 64
    refine (inC x.kind 1 2 _).mono ?_
    rintro e w1 ⟨rfl, h1⟩
    subst w1
    rw [d1]
    try go_wp2_with fail
    refine hK.out _ _ zq (fun zq => ?_)
    clear hK K
    try simp only [Act.put, pz, py, px]
    refine tkH 5 zq ?_
    refine tkH 6 zq ?_
    refine tkH 7 zq ?_
    refine tkH 8 zq ?_
    refine tkH 9 zq ?_
    refine tkJ 10 (v := ?vc10_10) ?hc10_10 zq ?rc10_10
    case hc10_10 =>
     intro wS hSw
     have q2 := (hSw.cell (p := ⟨b, o + 2, none⟩) hb).trans c2
     clear hSw
     (try dsimp only at hSw)
     go_simp
     try with_reducible rfl
    refine tkH 11 zq ?_
    refine tkH 12 zq ?_
    refine tkH 13 zq ?_
    refine tkJ 14 (v := ?vc14_14) ?hc14_14 zq ?rc14_14
    case hc14_14 =>
     intro wS hSw
     have q3 := (hSw.cell (p := ⟨b, o + 3, none⟩) hb).trans c3
     clear hSw
     (try dsimp only at hSw)
     go_simp
     try with_reducible rfl
    refine tkH 15 zq ?_
    refine tkH 16 zq ?_
    refine tkH 17 zq ?_
    refine tkH 18 zq ?_
    refine tkH 19 zq ?_
    refine skH 20 zq ?_
    refine skH 21 zq ?_
    refine tkH 22 zq ?_
    refine tkH 23 zq ?_
    refine wpAnyH_done (by kernel_rfl) ?_ _
    refine NoPanic.normal ?_
    have HB9 := zq
    clear zq
    have c0 : wD.cell? ⟨b, o, none⟩ = some (.int .i64 x.kind) := (HB9.cell (p := ⟨b, o, none⟩) hb).trans c0
    have c1 : wD.cell? ⟨b, o + 1, none⟩ = some (.int .i64 x.epoch) := (HB9.cell (p := ⟨b, o + 1, none⟩) hb).trans c1
    have c2 : wD.cell? ⟨b, o + 2, none⟩ = some (.int .i64 x.src) := (HB9.cell (p := ⟨b, o + 2, none⟩) hb).trans c2
    have c3 : wD.cell? ⟨b, o + 3, none⟩ = some (.int .i64 x.dst) := (HB9.cell (p := ⟨b, o + 3, none⟩) hb).trans c3
    have c4 : wD.cell? ⟨b, o + 4, none⟩ = some (.int .i64 x.index) := (HB9.cell (p := ⟨b, o + 4, none⟩) hb).trans c4
    have c5 : wD.cell? ⟨b, o + 5, none⟩ = some (.int .i64 x.write.kind) := (HB9.cell (p := ⟨b, o + 5, none⟩) hb).trans c5
    have c6 : wD.cell? ⟨b, o + 5 + 1, none⟩ = some (.int .i64 x.write.id) := (HB9.cell (p := ⟨b, o + 5 + 1, none⟩) hb).trans c6
    have c7 : wD.cell? ⟨b, o + 5 + 2, none⟩ = some (.slice a x.write.vec.length d) := (HB9.cell (p := ⟨b, o + 5 + 2, none⟩) hb).trans c7
    have c8 : wD.cell? ⟨b, o + 5 + 3, none⟩ = some (.int .i64 x.write.session) := (HB9.cell (p := ⟨b, o + 5 + 3, none⟩) hb).trans c8
    have c9 : wD.cell? ⟨b, o + 5 + 4, none⟩ = some (.int .i64 x.write.seq) := (HB9.cell (p := ⟨b, o + 5 + 4, none⟩) hb).trans c9
    have HWD := yh ((uh H).later HB9)
    replace hb : b < wD.heap.size := Nat.lt_of_lt_of_le hb HB9.size
    replace HB9 := yh HB9
    go_wp2_with fail
    refine (inC x.epoch 1 999 wD).mono ?_
    rintro e w1 ⟨rfl, h1⟩
    subst w1
    cases d10 : (decide (1 ≤ x.epoch) && decide (x.epoch ≤ 999))
    ·
     have HF := yh ((uh HRS).trans (mr_epoch d10))
     clear d10
     go_wp2_with fail
     go_ret
     exact ⟨by rw [uh HF]; rfl, uh HB9⟩
    skip
    go_wp2_with fail
    refine (node10C x.src wD).mono ?_
    rintro e w1 ⟨rfl, h1⟩
    subst w1
    cases d12 : (decide (1 ≤ x.src) && decide (x.src ≤ 5))
    ·
     have HF := yh ((uh HRS).trans (mr_src d12))
     clear d12
     go_wp2_with fail
     go_ret
     exact ⟨by rw [uh HF]; rfl, uh HB9⟩
    skip
    go_wp2_with fail
    refine (node10C x.dst wD).mono ?_
    rintro e w1 ⟨rfl, h1⟩
    subst w1
    cases d14 : (decide (1 ≤ x.dst) && decide (x.dst ≤ 5))
    ·
     have HF := yh ((uh HRS).trans (mr_dst d14))
     clear d14
     go_wp2_with fail
     go_ret
     exact ⟨by rw [uh HF]; rfl, uh HB9⟩
    skip
    go_wp2_with fail
    refine (inC x.index 0 40 wD).mono ?_
    rintro e w1 ⟨rfl, h1⟩
    subst w1
    cases d16 : (decide (0 ≤ x.index) && decide (x.index ≤ 40))
    ·
     have HF := yh ((uh HRS).trans (mr_index d16))
     clear d16
     go_wp2_with fail
     go_ret
     exact ⟨by rw [uh HF]; rfl, uh HB9⟩
    skip
    cases e5 : (x.index == 0)
    ·
     have HF : Hid (msgFault x = wF x.write) := (uh HRS).trans ((mr_ok d10 d12 d14 d16 (Or.inr e5)).trans (if_neg (by simpa using e2)))
     clear d10 d12 d14 d16
     go_wp2_with fail
     refine (l3FaultO b (o + 5) x.write.kind x.write.id _ x.write.session x.write.seq x.write.vec wD ⟨c5, c6, c7, c8, c9⟩ (Lay.ints_reads (uh HWD))).mono ?_
     rintro e w1 ⟨rfl, h1⟩
     subst w1
     go_wp2_with fail
     go_ret
     exact ⟨by rw [uh HF]; rfl, uh HB9⟩
    have HF : Hid (msgFault x = 3) := (uh HRS).trans (mr_zero e2 e5)
    clear d10 d12 d14 d16
    go_wp2_with fail
    go_ret
    exact ⟨by rw [uh HF]; rfl, uh HB9⟩
   cases e3 : decide (noW x.write)
   ·
    have HF := yh (mf_ack e2 e3)
    go_upto_region 3 with fail
    refine wp_region_noPanic ?_
    refine wp_region_held_drew (S := fun w' => Below wc.heap.size wc w') (by kernel_rfl) (Below.refl _ _).drew (fun zq => ?_)
    generalize wc.drew = wD at zq ⊢
    refine tkH 0 zq ?_
    refine tkH 1 zq ?_
    refine tkH 2 zq ?_
    refine tkJ 3 (v := ?vd3_4) ?hd3_4 zq ?rd3_4
    case hd3_4 =>
     intro wS hSw
     have q0 := (hSw.cell (p := ⟨b, o, none⟩) hb).trans c0
     clear hSw
     (try dsimp only at hSw)
     go_simp
     try with_reducible rfl
    refine rdH 4 (fun K hK => ?_)
    go_simp
    go_at_call 64
    refine (inC x.kind 1 2 _).mono ?_
    rintro e w1 ⟨rfl, h1⟩
    subst w1
    rw [d1]
    try go_wp2_with fail
    refine hK.out _ _ zq (fun zq => ?_)
    clear hK K
    try simp only [Act.put, pz, py, px]
    refine tkH 5 zq ?_
    refine tkH 6 zq ?_
    refine tkH 7 zq ?_
    refine tkH 8 zq ?_
    refine tkH 9 zq ?_
    refine tkJ 10 (v := ?vd10_10) ?hd10_10 zq ?rd10_10
    case hd10_10 =>
     intro wS hSw
     have q2 := (hSw.cell (p := ⟨b, o + 2, none⟩) hb).trans c2
     clear hSw
     (try dsimp only at hSw)
     go_simp
     try with_reducible rfl
    refine tkH 11 zq ?_
    refine tkH 12 zq ?_
    refine tkH 13 zq ?_
    refine tkJ 14 (v := ?vd14_14) ?hd14_14 zq ?rd14_14
    case hd14_14 =>
     intro wS hSw
     have q3 := (hSw.cell (p := ⟨b, o + 3, none⟩) hb).trans c3
     clear hSw
     (try dsimp only at hSw)
     go_simp
     try with_reducible rfl
    refine tkH 15 zq ?_
    refine tkH 16 zq ?_
    refine tkH 17 zq ?_
    refine tkH 18 zq ?_
    refine tkH 19 zq ?_
    refine tkH 20 zq ?_
    refine tkH 21 zq ?_
    refine tkH 22 zq ?_
    refine tkH 23 zq ?_
    refine wpAnyH_done (by kernel_rfl) ?_ _
    refine NoPanic.normal ?_
    have HB9 := yh zq
    clear zq
    go_wp2_with fail
    go_ret
    exact ⟨by rw [uh HF]; rfl, uh HB9⟩
   have HRS := yh (mf_rest2 d1 e1 e3)
   go_upto_region 3 with fail
   refine wp_region_noPanic ?_
   refine wp_region_held_drew (S := fun w' => Below wc.heap.size wc w') (by kernel_rfl) (Below.refl _ _).drew (fun zq => ?_)
   generalize wc.drew = wD at zq ⊢
   refine tkH 0 zq ?_
   refine tkH 1 zq ?_
   refine tkH 2 zq ?_
   refine tkJ 3 (v := ?ve3_4) ?he3_4 zq ?re3_4
   case he3_4 =>
    intro wS hSw
    have q0 := (hSw.cell (p := ⟨b, o, none⟩) hb).trans c0
    clear hSw
    (try dsimp only at hSw)
    go_simp
    try with_reducible rfl
   refine rdH 4 (fun K hK => ?_)
   go_simp
   go_at_call 64
   refine (inC x.kind 1 2 _).mono ?_
   rintro e w1 ⟨rfl, h1⟩
   subst w1
   rw [d1]
   try go_wp2_with fail
   refine hK.out _ _ zq (fun zq => ?_)
   clear hK K
   try simp only [Act.put, pz, py, px]
   refine tkH 5 zq ?_
   refine tkH 6 zq ?_
   refine tkH 7 zq ?_
   refine tkH 8 zq ?_
   refine tkH 9 zq ?_
   refine tkJ 10 (v := ?ve10_10) ?he10_10 zq ?re10_10
   case he10_10 =>
    intro wS hSw
    have q2 := (hSw.cell (p := ⟨b, o + 2, none⟩) hb).trans c2
    clear hSw
    (try dsimp only at hSw)
    go_simp
    try with_reducible rfl
   refine tkH 11 zq ?_
   refine tkH 12 zq ?_
   refine tkH 13 zq ?_
   refine tkJ 14 (v := ?ve14_14) ?he14_14 zq ?re14_14
   case he14_14 =>
    intro wS hSw
    have q3 := (hSw.cell (p := ⟨b, o + 3, none⟩) hb).trans c3
    clear hSw
    (try dsimp only at hSw)
    go_simp
    try with_reducible rfl
   refine tkH 15 zq ?_
   refine tkH 16 zq ?_
   refine tkH 17 zq ?_
   refine tkH 18 zq ?_
   refine tkH 19 zq ?_
   refine tkH 20 zq ?_
   refine tkH 21 zq ?_
   refine tkH 22 zq ?_
   refine tkH 23 zq ?_
   refine wpAnyH_done (by kernel_rfl) ?_ _
   refine NoPanic.normal ?_
   have HB9 := zq
   clear zq
   have c0 : wD.cell? ⟨b, o, none⟩ = some (.int .i64 x.kind) := (HB9.cell (p := ⟨b, o, none⟩) hb).trans c0
   have c1 : wD.cell? ⟨b, o + 1, none⟩ = some (.int .i64 x.epoch) := (HB9.cell (p := ⟨b, o + 1, none⟩) hb).trans c1
   have c2 : wD.cell? ⟨b, o + 2, none⟩ = some (.int .i64 x.src) := (HB9.cell (p := ⟨b, o + 2, none⟩) hb).trans c2
   have c3 : wD.cell? ⟨b, o + 3, none⟩ = some (.int .i64 x.dst) := (HB9.cell (p := ⟨b, o + 3, none⟩) hb).trans c3
   have c4 : wD.cell? ⟨b, o + 4, none⟩ = some (.int .i64 x.index) := (HB9.cell (p := ⟨b, o + 4, none⟩) hb).trans c4
   have c5 : wD.cell? ⟨b, o + 5, none⟩ = some (.int .i64 x.write.kind) := (HB9.cell (p := ⟨b, o + 5, none⟩) hb).trans c5
   have c6 : wD.cell? ⟨b, o + 5 + 1, none⟩ = some (.int .i64 x.write.id) := (HB9.cell (p := ⟨b, o + 5 + 1, none⟩) hb).trans c6
   have c7 : wD.cell? ⟨b, o + 5 + 2, none⟩ = some (.slice a x.write.vec.length d) := (HB9.cell (p := ⟨b, o + 5 + 2, none⟩) hb).trans c7
   have c8 : wD.cell? ⟨b, o + 5 + 3, none⟩ = some (.int .i64 x.write.session) := (HB9.cell (p := ⟨b, o + 5 + 3, none⟩) hb).trans c8
   have c9 : wD.cell? ⟨b, o + 5 + 4, none⟩ = some (.int .i64 x.write.seq) := (HB9.cell (p := ⟨b, o + 5 + 4, none⟩) hb).trans c9
   have HWD := yh ((uh H).later HB9)
   replace hb : b < wD.heap.size := Nat.lt_of_lt_of_le hb HB9.size
   replace HB9 := yh HB9
   go_wp2_with fail
   refine (inC x.epoch 1 999 wD).mono ?_
   rintro e w1 ⟨rfl, h1⟩
   subst w1
   cases d12 : (decide (1 ≤ x.epoch) && decide (x.epoch ≤ 999))
   ·
    have HF := yh ((uh HRS).trans (mr_epoch d12))
    clear d12
    go_wp2_with fail
    go_ret
    exact ⟨by rw [uh HF]; rfl, uh HB9⟩
   skip
   go_wp2_with fail
   refine (node10C x.src wD).mono ?_
   rintro e w1 ⟨rfl, h1⟩
   subst w1
   cases d14 : (decide (1 ≤ x.src) && decide (x.src ≤ 5))
   ·
    have HF := yh ((uh HRS).trans (mr_src d14))
    clear d14
    go_wp2_with fail
    go_ret
    exact ⟨by rw [uh HF]; rfl, uh HB9⟩
   skip
   go_wp2_with fail
   refine (node10C x.dst wD).mono ?_
   rintro e w1 ⟨rfl, h1⟩
   subst w1
   cases d16 : (decide (1 ≤ x.dst) && decide (x.dst ≤ 5))
   ·
    have HF := yh ((uh HRS).trans (mr_dst d16))
    clear d16
    go_wp2_with fail
    go_ret
    exact ⟨by rw [uh HF]; rfl, uh HB9⟩
   skip
   go_wp2_with fail
   refine (inC x.index 0 40 wD).mono ?_
   rintro e w1 ⟨rfl, h1⟩
   subst w1
   cases d18 : (decide (0 ≤ x.index) && decide (x.index ≤ 40))
   ·
    have HF := yh ((uh HRS).trans (mr_index d18))
    clear d18
    go_wp2_with fail
    go_ret
    exact ⟨by rw [uh HF]; rfl, uh HB9⟩
   skip
   have HF : Hid (msgFault x = 0) := (uh HRS).trans ((mr_ok d12 d14 d16 d18 (Or.inl e2)).trans (if_pos (beq_iff_eq.1 e2)))
   clear d12 d14 d16 d18
   go_wp2_with fail
   go_ret
   exact ⟨by rw [uh HF]; rfl, uh HB9⟩
  have HF := yh (mf_self e1)
  go_upto_region 3 with fail
  refine wp_region_noPanic ?_
  refine wp_region_held_drew (S := fun w' => Below wc.heap.size wc w') (by kernel_rfl) (Below.refl _ _).drew (fun zq => ?_)
  generalize wc.drew = wD at zq ⊢
  refine tkH 0 zq ?_
  refine tkH 1 zq ?_
  refine tkH 2 zq ?_
  refine tkJ 3 (v := ?vb3_4) ?hb3_4 zq ?rb3_4
  case hb3_4 =>
   intro wS hSw
   have q0 := (hSw.cell (p := ⟨b, o, none⟩) hb).trans c0
   clear hSw
   (try dsimp only at hSw)
   go_simp
   try with_reducible rfl
  refine rdH 4 (fun K hK => ?_)
  go_simp
  go_at_call 64
  refine (inC x.kind 1 2 _).mono ?_
  rintro e w1 ⟨rfl, h1⟩
  subst w1
  rw [d1]
  try go_wp2_with fail
  refine hK.out _ _ zq (fun zq => ?_)
  clear hK K
  try simp only [Act.put, pz, py, px]
  refine tkH 5 zq ?_
  refine tkH 6 zq ?_
  refine tkH 7 zq ?_
  refine tkH 8 zq ?_
  refine tkH 9 zq ?_
  refine tkJ 10 (v := ?vb10_10) ?hb10_10 zq ?rb10_10
  case hb10_10 =>
   intro wS hSw
   have q2 := (hSw.cell (p := ⟨b, o + 2, none⟩) hb).trans c2
   clear hSw
   (try dsimp only at hSw)
   go_simp
   try with_reducible rfl
  refine tkH 11 zq ?_
  refine tkH 12 zq ?_
  refine tkH 13 zq ?_
  refine tkJ 14 (v := ?vb14_14) ?hb14_14 zq ?rb14_14
  case hb14_14 =>
   intro wS hSw
   have q3 := (hSw.cell (p := ⟨b, o + 3, none⟩) hb).trans c3
   clear hSw
   (try dsimp only at hSw)
   go_simp
   try with_reducible rfl
  refine tkH 15 zq ?_
  refine tkH 16 zq ?_
  refine tkH 17 zq ?_
  refine skH 18 zq ?_
  refine skH 19 zq ?_
  refine skH 20 zq ?_
  refine skH 21 zq ?_
  refine skH 22 zq ?_
  refine tkH 23 zq ?_
  refine wpAnyH_done (by kernel_rfl) ?_ _
  refine NoPanic.normal ?_
  have HB9 := yh zq
  clear zq
  go_wp2_with fail
  go_ret
  exact ⟨by rw [uh HF]; rfl, uh HB9⟩
theorem msg_row {w : World} {b off cap : Nat} {xs : List DMsg} (h : (Lay.sl Lay.tMsg).Reads w [.slice (some ⟨b, off, none⟩) xs.length cap] xs) {k : Nat} (hk : k < xs.length) : ∃ a d, MsgAt w b (off + k * 10) xs[k] (.slice a xs[k].write.vec.length d) ∧ (Lay.sl Lay.int).Reads w [.slice a xs[k].write.vec.length d] xs[k].write.vec := by
 obtain ⟨row, hc, hr⟩ := Lay.row_at h hk
 obtain ⟨a, d, rfl, R⟩ := open_Msg hr
 exact ⟨a, d, ⟨hc 0 (by decide), hc 1 (by decide), hc 2 (by decide), hc 3 (by decide), hc 4 (by decide), hc 5 (by decide), hc 6 (by decide), hc 7 (by decide), hc 8 (by decide), hc 9 (by decide)⟩, write_vec R⟩
theorem nf_many {xs : List DMsg} (h : 40 < xs.length) : netFault xs = 2 := by rw [netFault, if_pos h]
theorem nf_few {xs : List DMsg} (h : ¬ 40 < xs.length) : netFault xs = msgsFrom xs := by rw [netFault, if_neg h]
theorem l11FaultC (v : Value) (xs : List DMsg) (w : World) (h : (Lay.sl Lay.tMsg).Reads w [v] xs) :
  Calls Tryz.prog 180 #[v] w fun e w' => e = .returned (.int .i64 (netFault xs)) ∧ Below w.heap.size w w' := by
 obtain ⟨ao, cap, rfl⟩ := open_sl h
 have hbig := h.big
 have H := yh h
 clear h
 by_cases h40 : 40 < xs.length
 ·
  have HF := yh (nf_many h40)
  have hd : decide ((40 : Int) < (xs.length : Int)) = true := by simp; omega
  go_enter Tryz.func180, Tryz.ntmps180
  go_wp2_with fail
  go_ret
  exact ⟨by rw [uh HF]; rfl, Below.refl _ _⟩
 have HF := yh (nf_few h40)
 have hd : decide ((40 : Int) < (xs.length : Int)) = false := by simp; omega
 go_enter Tryz.func180, Tryz.ntmps180
 go_wp2_with fail
 clear hd
 go_loopw [3] (fun i wr => ∃ k : Nat, k ≤ xs.length ∧ i = .int .i64 k ∧ (∀ j (hj : j < xs.length), j < k → msgFault xs[j] = 0) ∧ Below w.heap.size w wr) (fun i _ => xs.length - (intOf i).toNat)
 case atStart => exact ⟨0, Nat.zero_le _, rfl, fun j _ hj => by omega, Below.refl _ _⟩
 case round =>
  obtain ⟨k, hk, rfl, hz, hB⟩ := hrel
  by_cases hlt : k < xs.length
  ·
   obtain ⟨b, off, rfl, hbl⟩ := Lay.sl_addr (uh H) (by omega)
   obtain ⟨a, d, hM, R⟩ := msg_row ((uh H).later hB) hlt
   have HL := yh (l11MsgC b (off + k * 10) a d xs[k] wr hM R)
   have hbr : b < wr.heap.size := Nat.lt_of_lt_of_le hbl hB.size
   have hdl : decide ((k : Int) < (xs.length : Int)) = true := by simp; omega
   have HB := yh hB
   have HAT : Hid (msgFault xs[k] ≠ 0 → msgsFrom xs = msgFault xs[k]) := fun q => msgsFrom_at hlt (fun j hj => hz j (by omega) hj) q
   have HZ2 : Hid (msgFault xs[k] = 0 → ∀ j (hj : j < xs.length), j < k + 1 → msgFault xs[j] = 0) := by
    intro h0 j hj hjk
    by_cases hjk2 : j < k
    ·
     exact hz j hj hjk2
    obtain rfl : j = k := by omega
    exact h0
   clear hz hM R hB
   generalize msgFault xs[k] = f at *
   go_wp2_with fail
   refine (uh HL).mono ?_
   rintro e w2 ⟨rfl, hb⟩
   have HB2 := yh ((uh HB).trans (hb.mono (uh HB).size))
   clear hb HL HB
   by_cases hf : f = 0
   ·
    have HZ3 := yh (uh HZ2 hf)
    subst hf
    clear HZ2 HAT
    go_wp2_with fail
    go_roundw
    case rel => exact ⟨k + 1, by omega, by go_num, uh HZ3, uh HB2⟩
    case measure => simp [intOf]; omega
   have HA := yh ((uh HF).trans (uh HAT hf))
   have hd : (f != 0) = true := by simpa using hf
   clear HZ2 HAT hf
   go_wp2_with fail
   go_ret
   exact ⟨by rw [uh HA]; rfl, uh HB2⟩
  obtain rfl : k = xs.length := by omega
  have hdl : decide ((xs.length : Int) < (xs.length : Int)) = false := by simp
  have HA := yh ((uh HF).trans (msgsFrom_all fun x hx => by obtain ⟨j, hj, rfl⟩ := List.getElem_of_mem hx; exact hz j hj hj))
  have HB := yh hB
  clear hB hz
  go_wp2_with fail
  go_ret
  exact ⟨by rw [uh HA]; rfl, uh HB⟩
theorem l12FaultC (a3 : Option Addr) (d3 : Nat) (a4 : Option Addr) (d4 : Nat) (a5 : Option Addr) (d5 : Nat) (a6 : Option Addr) (d6 : Nat) (x : DWorld) (xb : Nat) (w : World) (hX : Box 0 #[.int .i64 x.now, .int .i64 x.events, .int .i64 x.chain.epoch, .slice a3 x.chain.ids.length d3, .slice a4 x.nodes.length d4, .slice a5 x.msgs.length d5, .slice a6 x.history.length d6] 36 w xb) (h : Lay.tWorld.Reads w [.int .i64 x.now, .int .i64 x.events, .int .i64 x.chain.epoch, .slice a3 x.chain.ids.length d3, .slice a4 x.nodes.length d4, .slice a5 x.msgs.length d5, .slice a6 x.history.length d6] x) :
  Calls Tryz.prog 95 #[.pointer (some ⟨xb, 0, none⟩)] w fun e w' => e = .returned (.int .i64 (worldFault x)) ∧ Below w.heap.size w w' := by
 have HX := yh hX
 have HR := yh h
 have HB := yh (Below.refl w.heap.size w)
 have HP : Hid (worldFault x = if (decide (0 ≤ x.now) && decide (x.now ≤ 9000)) = false ∨ (decide (0 ≤ x.events) && decide (x.events ≤ 9999)) = false then 3 else if chainFault x.chain ≠ 0 then chainFault x.chain
  else if x.nodes.length < 1 ∨ 5 < x.nodes.length then 2 else if nodesFault x ≠ 0 then nodesFault x else if netFault x.msgs ≠ 0 then netFault x.msgs
  else if 60 < x.history.length then 2 else if (x.history.drop 0).all (entryB x) = true then 0 else 3) := by
  have e1 : (¬ (0 ≤ x.now ∧ x.now ≤ 9000) ∨ ¬ (0 ≤ x.events ∧ x.events ≤ 9999)) ↔ ((decide (0 ≤ x.now) && decide (x.now ≤ 9000)) = false ∨ (decide (0 ≤ x.events) && decide (x.events ≤ 9999)) = false) := by
   simp only [Bool.and_eq_false_iff, decide_eq_false_iff_not]
   omega
  show worldFault x = _
  unfold worldFault
  by_cases h1 : (decide (0 ≤ x.now) && decide (x.now ≤ 9000)) = false ∨ (decide (0 ≤ x.events) && decide (x.events ≤ 9999)) = false
  ·
   rw [if_pos (e1.2 h1), if_pos h1]
  rw [if_neg (fun q => h1 (e1.1 q)), if_neg h1]
  rfl
 clear h hX
 generalize worldFault x = r at *
 have z0 := Box.at (uh HX) 0 _ rfl
 have z1 := Box.at (uh HX) 1 _ rfl
 have z2 := Box.at (uh HX) 2 _ rfl
 have z3 := Box.at (uh HX) 3 _ rfl
 have z4 := Box.at (uh HX) 4 _ rfl
 have z5 := Box.at (uh HX) 5 _ rfl
 have z6 := Box.at (uh HX) 6 _ rfl
 simp only [ga, gb, gc] at z0 z1 z2 z3 z4 z5 z6
 have xl := (uh HX).lt
 go_enter Tryz.func95, Tryz.ntmps95
 go_wp2_with fail
 refine (inC x.now 0 9000 w).mono ?_
 rintro e w2 ⟨rfl, h2⟩
 subst w2
 cases d1 : (decide (0 ≤ x.now) && decide (x.now ≤ 9000))
 ·
  replace HP := yh ((uh HP).trans (if_pos (Or.inl d1)))
  clear d1
  go_wp2_with fail
  go_ret
  exact ⟨by rw [uh HP]; rfl, uh HB⟩
 go_wp2_with fail
 refine (inC x.events 0 9999 w).mono ?_
 rintro e w2 ⟨rfl, h2⟩
 subst w2
 cases d2 : (decide (0 ≤ x.events) && decide (x.events ≤ 9999))
 ·
  replace HP := yh ((uh HP).trans (if_pos (Or.inr d2)))
  clear d1 d2
  go_wp2_with fail
  go_ret
  exact ⟨by rw [uh HP]; rfl, uh HB⟩
 replace HP := yh ((uh HP).trans (if_neg (by rw [d1, d2]; simp)))
 clear d1 d2
 go_wp2_with fail
 obtain ⟨_, _, _, _, _, _, _, _, hq, RC, -, -, -⟩ := open_World (uh HR)
 simp only [List.cons.injEq, Value.slice.injEq, and_true, true_and] at hq
 obtain ⟨⟨rfl, rfl⟩, ⟨rfl, rfl⟩, ⟨rfl, rfl⟩, rfl, rfl⟩ := hq
 obtain ⟨_, _, hq, RI⟩ := open_Chain RC
 simp only [List.cons.injEq, Value.slice.injEq, and_true, true_and] at hq
 obtain ⟨rfl, rfl⟩ := hq
 refine (l10FaultO xb 2 _ _ x.chain w ⟨(uh HX).at 2 _ rfl, (uh HX).at 3 _ rfl⟩ RI).mono ?_
 rintro e w2 ⟨rfl, h2⟩
 subst w2
 clear RC RI
 by_cases d3 : chainFault x.chain ≠ 0
 ·
  have hd : (chainFault x.chain != 0) = true := by simpa using d3
  replace HP := yh ((uh HP).trans (if_pos d3))
  clear d3
  generalize chainFault x.chain = c at *
  go_wp2_with fail
  go_ret
  exact ⟨by rw [uh HP]; rfl, uh HB⟩
 replace HP := yh ((uh HP).trans (if_neg d3))
 have hd : chainFault x.chain = 0 := by simpa using d3
 clear d3
 rw [hd]
 clear hd
 have hbn := (show x.nodes.length ≤ 9223372036854775807 from by
  obtain ⟨_, _, _, _, _, _, _, _, hq, -, RN, -, -⟩ := open_World (uh HR)
  exact RN.big)
 by_cases d4 : x.nodes.length < 1 ∨ 5 < x.nodes.length
 ·
  replace HP := yh ((uh HP).trans (if_pos d4))
  by_cases d5 : x.nodes.length < 1
  ·
   have hd : decide ((x.nodes.length : Int) < 1) = true := by simp; omega
   clear d4 d5
   go_wp2_with fail
   go_ret
   exact ⟨by rw [uh HP]; rfl, uh HB⟩
  have hd : decide ((x.nodes.length : Int) < 1) = false := by simp; omega
  have hd2 : decide ((5 : Int) < (x.nodes.length : Int)) = true := by simp; omega
  clear d4 d5
  go_wp2_with fail
  go_ret
  exact ⟨by rw [uh HP]; rfl, uh HB⟩
 replace HP := yh ((uh HP).trans (if_neg d4))
 have hd : decide ((x.nodes.length : Int) < 1) = false := by simp; omega
 have hd2 : decide ((5 : Int) < (x.nodes.length : Int)) = false := by simp; omega
 have hn5 : x.nodes.length ≤ 5 := by omega
 clear d4
 go_wp2_with fail
 refine (l12NodesC _ _ _ _ _ _ _ _ x xb w (uh HX) (uh HR)).mono ?_
 rintro e w4 ⟨rfl, hb⟩
 clear xl hn5 z0 z1 z2 z3 z4 z5 z6
 replace HX := yh ((uh HX).keep hb)
 replace HR := yh ((uh HR).later hb)
 replace HB := yh ((uh HB).trans (hb.mono (uh HB).size))
 clear hb
 have z0 := Box.at (uh HX) 0 _ rfl
 have z1 := Box.at (uh HX) 1 _ rfl
 have z2 := Box.at (uh HX) 2 _ rfl
 have z3 := Box.at (uh HX) 3 _ rfl
 have z4 := Box.at (uh HX) 4 _ rfl
 have z5 := Box.at (uh HX) 5 _ rfl
 have z6 := Box.at (uh HX) 6 _ rfl
 simp only [ga, gb, gc] at z0 z1 z2 z3 z4 z5 z6
 have xl := (uh HX).lt
 by_cases d3 : nodesFault x ≠ 0
 ·
  have hd : (nodesFault x != 0) = true := by simpa using d3
  replace HP := yh ((uh HP).trans (if_pos d3))
  clear d3
  generalize nodesFault x = c at *
  go_wp2_with fail
  go_ret
  exact ⟨by rw [uh HP]; rfl, uh HB⟩
 replace HP := yh ((uh HP).trans (if_neg d3))
 have hd : nodesFault x = 0 := by simpa using d3
 clear d3
 rw [hd]
 clear hd
 go_wp2_with fail
 obtain ⟨_, _, _, _, _, _, _, _, hq, -, -, RM, -⟩ := open_World (uh HR)
 simp only [List.cons.injEq, Value.slice.injEq, and_true, true_and] at hq
 obtain ⟨⟨rfl, rfl⟩, ⟨rfl, rfl⟩, ⟨rfl, rfl⟩, rfl, rfl⟩ := hq
 refine (l11FaultC _ x.msgs w4 RM).mono ?_
 rintro e w5 ⟨rfl, hb⟩
 clear RM xl z0 z1 z2 z3 z4 z5 z6
 replace HX := yh ((uh HX).keep hb)
 replace HR := yh ((uh HR).later hb)
 replace HB := yh ((uh HB).trans (hb.mono (uh HB).size))
 clear hb
 have z0 := Box.at (uh HX) 0 _ rfl
 have z1 := Box.at (uh HX) 1 _ rfl
 have z2 := Box.at (uh HX) 2 _ rfl
 have z3 := Box.at (uh HX) 3 _ rfl
 have z4 := Box.at (uh HX) 4 _ rfl
 have z5 := Box.at (uh HX) 5 _ rfl
 have z6 := Box.at (uh HX) 6 _ rfl
 simp only [ga, gb, gc] at z0 z1 z2 z3 z4 z5 z6
 have xl := (uh HX).lt
 by_cases d3 : netFault x.msgs ≠ 0
 ·
  have hd : (netFault x.msgs != 0) = true := by simpa using d3
  replace HP := yh ((uh HP).trans (if_pos d3))
  clear d3
  generalize netFault x.msgs = c at *
  go_wp2_with fail
  go_ret
  exact ⟨by rw [uh HP]; rfl, uh HB⟩
 replace HP := yh ((uh HP).trans (if_neg d3))
 have hd : netFault x.msgs = 0 := by simpa using d3
 clear d3
 rw [hd]
 clear hd
 obtain ⟨_, _, _, _, _, _, _, _, hq, -, -, -, RE⟩ := open_World (uh HR)
 simp only [List.cons.injEq, Value.slice.injEq, and_true, true_and] at hq
 obtain ⟨⟨rfl, rfl⟩, ⟨rfl, rfl⟩, ⟨rfl, rfl⟩, rfl, rfl⟩ := hq
 have HE := yh RE
 have hbig := RE.big
 clear RE
 by_cases d4 : 60 < x.history.length
 ·
  replace HP := yh ((uh HP).trans (if_pos d4))
  have hd : decide ((60 : Int) < (x.history.length : Int)) = true := by simp; omega
  clear d4
  go_wp2_with fail
  go_ret
  exact ⟨by rw [uh HP]; rfl, uh HB⟩
 replace HP := yh ((uh HP).trans (if_neg d4))
 have hd : decide ((60 : Int) < (x.history.length : Int)) = false := by simp; omega
 clear d4
 go_wp2_with fail
 clear z0 z1 z2 z3 z4 z5 z6 xl hd
 go_loopw [6] (fun i wr => ∃ k : Nat, k ≤ x.history.length ∧ i = .int .i64 k ∧ r = (if (x.history.drop k).all (entryB x) = true then 0 else 3) ∧ Below w5.heap.size w5 wr) (fun i _ => x.history.length - (intOf i).toNat)
 case atStart => exact ⟨0, Nat.zero_le _, rfl, uh HP, Below.refl _ _⟩
 case round =>
  obtain ⟨k, hk, rfl, hF, hB⟩ := hrel
  clear HP
  have hX2 := (uh HX).keep hB
  have y6 := Box.at hX2 6 _ rfl
  simp only [ga, gb, gc] at y6
  have xl := hX2.lt
  have HB3 := yh ((uh HB).trans (hB.mono (uh HB).size))
  by_cases hlt : k < x.history.length
  ·
   obtain ⟨b, off, rfl, hbl⟩ := Lay.sl_addr (uh HE) (by omega)
   obtain ⟨row, hcl, hr⟩ := Lay.row_at (uh HE) hlt
   rw [List.drop_eq_getElem_cons hlt, List.all_cons] at hF
   have hdl : decide ((k : Int) < (x.history.length : Int)) = true := by simp; omega
   have hrl := hr.len
   obtain ⟨aq, dq, av, dv, ah, dh, rfl, -⟩ := open_Entry hr
   have hE : RowIn #[.int .i64 (x.history[k]).kind, .int .i64 (x.history[k]).session, .int .i64 (x.history[k]).seq, .int .i64 (x.history[k]).id, .slice aq (x.history[k]).query.length dq, .int .i64 (x.history[k]).k, .int .i64 (x.history[k]).start, .int .i64 (x.history[k]).fin, .int .i64 (x.history[k]).place, .slice av (x.history[k]).vec.length dv, .slice ah (x.history[k]).hits.length dh] wr b (off + k * 11) := RowIn.ofRow (A := Lay.tEntry) (k := k) (fun m hm => (hB.cell (p := ⟨b, off + k * 11 + m, none⟩) hbl).trans (hcl m hm)) hrl (Nat.lt_of_lt_of_le hbl hB.size)
   have HL := yh (l12EntryC _ _ _ _ _ _ _ _ _ _ _ _ _ _ x _ xb b (off + k * 11) wr hX2 hE)
   have HF := yh hF
   have HBQ := yh hB
   clear hF hX2 hB hr hrl hcl hE
   generalize x.history[k] = z at *
   go_wp2_with fail
   refine (uh HL).mono ?_
   rintro e w5 ⟨rfl, hb⟩
   replace HB3 := yh ((uh HB3).trans (hb.mono (uh HB3).size))
   replace HBQ := yh ((uh HBQ).trans (hb.mono (uh HBQ).size))
   clear HL hb y6
   generalize entryB x z = q at *
   cases q
   ·
    replace HF := yh ((uh HF).trans (if_neg (by simp)))
    go_wp2_with fail
    go_ret
    exact ⟨by rw [uh HF]; rfl, uh HB3⟩
   rw [Bool.true_and] at HF
   go_wp2_with fail
   go_roundw
   case rel => exact ⟨k + 1, by omega, by go_num, uh HF, uh HBQ⟩
   case measure => simp [intOf]; omega
  obtain rfl : k = x.history.length := by omega
  rw [List.drop_length, List.all_nil, if_pos rfl] at hF
  have hdl : decide ((x.history.length : Int) < (x.history.length : Int)) = false := by simp
  have HF := yh hF
  clear hF hB hX2
  go_wp2_with fail
  go_ret
  exact ⟨by rw [uh HF]; rfl, uh HB3⟩
theorem l13TailC (a3 : Option Addr) (d3 : Nat) (d4 : Nat) (a5 : Option Addr) (d5 : Nat) (a6 : Option Addr) (d6 : Nat) (b off k : Nat) (x : DWorld) (xb : Nat) (w : World) (hX : Box 0 #[.int .i64 x.now, .int .i64 x.events, .int .i64 x.chain.epoch, .slice a3 x.chain.ids.length d3, .slice (some ⟨b, off, none⟩) x.nodes.length d4, .slice a5 x.msgs.length d5, .slice a6 x.history.length d6] 36 w xb) (h : Lay.tWorld.Reads w [.int .i64 x.now, .int .i64 x.events, .int .i64 x.chain.epoch, .slice a3 x.chain.ids.length d3, .slice (some ⟨b, off, none⟩) x.nodes.length d4, .slice a5 x.msgs.length d5, .slice a6 x.history.length d6] x) (hok : WorldOK x) (hk : k < x.nodes.length) (ht : tailId x = (k : Int) + 1) :
  Calls Tryz.prog 92 #[.pointer (some ⟨xb, 0, none⟩)] w fun e w' => e = .returned (.pointer (some ⟨b, off + k * 7, none⟩)) ∧ Below w.heap.size w w' := by
 obtain ⟨_, _, _, _, _, _, _, _, hq, RC, RN, -, -⟩ := open_World h
 simp only [List.cons.injEq, Value.slice.injEq, and_true, true_and] at hq
 obtain ⟨⟨rfl, rfl⟩, ⟨rfl, rfl⟩, -, -, -⟩ := hq
 obtain ⟨_, _, hq, RI⟩ := open_Chain RC
 simp only [List.cons.injEq, Value.slice.injEq, and_true, true_and] at hq
 obtain ⟨rfl, rfl⟩ := hq
 have hl := (chainFault_zero hok.chain).len
 obtain ⟨n, hn⟩ : ∃ n, x.chain.ids.length = n + 1 := ⟨x.chain.ids.length - 1, by omega⟩
 obtain ⟨bi, oi, rfl, hbi⟩ := Lay.sl_addr RI (by omega)
 have hlt : n < x.chain.ids.length := by omega
 have c1 := int_cell RI hlt
 have hv : x.chain.ids[n] = (k : Int) + 1 := by
  rw [← ht]
  have e : x.chain.ids.length - 1 = n := by omega
  simp [tailId, e, List.getD, hlt]
 rw [hv] at c1
 have z3 := Box.at hX 3 _ rfl
 have z4 := Box.at hX 4 _ rfl
 simp only [ga, gb, gc] at z3 z4
 have zl := hX.lt
 have hn5 := hok.some
 have hw1 : IntKind.i64.wrap (k : Int) = (k : Int) := by
  rw [IntKind.wrap_i64]
  omega
 have hw2 : IntKind.i64.wrap (n : Int) = (n : Int) := by
  rw [IntKind.wrap_i64]
  omega
 have hw3 : IntKind.i64.wrap ((n : Int) + 1 - 1) = (n : Int) := by
  rw [IntKind.wrap_i64]
  omega
 have hki : (k : Int) < (x.nodes.length : Int) := by omega
 have hki0 : (0 : Int) ≤ (k : Int) := by omega
 have hni : (n : Int) < ((n + 1 : Nat) : Int) := by omega
 have hni0 : (0 : Int) ≤ (n : Int) := by omega
 have hns : ((n + 1 : Nat) : Int) - 1 = (n : Int) := by omega
 have HB := yh (Below.refl w.heap.size w)
 have HBD : Hid (∀ m, Below w.heap.size w (w.drewN m)) := fun m => below_drawn (Below.refl _ _) m
 rw [hn] at z3
 clear hX h RC RN RI hl hlt hv hok hn5 hn ht
 go_enter Tryz.func92, Tryz.ntmps92
 go_wp2_with fail
 go_quiet (fail)
 go_wp2_with fail
 go_ret
 exact ⟨rfl, uh HBD _⟩
theorem infoAppItem : (Tryz.prog.info? 125).map (fun i => (i.zero, i.size, i.bytes)) = some (some (.agg #[.int .i64 0, .slice none 0 0]), 2, 32) := by kernel_rfl
theorem one_Item {w : World} {row : List Value} {x : DItem} {bl : List Nat} (h : Lay.tItem.lies w row x bl) : (∀ u ∈ row, u.oneCell' = true) ∧ row.length = 1 * 2 := by
 obtain ⟨_, _, _, rfl, -⟩ := lies_Item.1 h
 simp [Value.oneCell']
theorem wpList_append_Item {w1 : World} {base : Nat} {v : Value} {rows : List (List Value)} {xs : List DItem} {bls : List (List Nat)} (hG : Grow Lay.tItem w1 base 125 v rows xs bls) {row : List Value} {x : DItem} {bl : List Nat} (hl : Lay.tItem.lies w1 row x bl) (hbl : ∀ b ∈ bl, v.ownBlock ≠ some b) {ops : Array Oper} {rest : List Oper} {o : Oper} {a : Act} {Q : Exit → Act → World → Prop} (hgd : o.guard = none) (s y : Operand)
  (ho : o.op = .call { callee := .builtin .append, args := #[s, y], argTypes := #[64, 64] }) (hs : a.eval s = v) (hy : a.eval y = .slice (some ⟨w1.heap.size, 0, none⟩) 1 1) (hn : xs.length + 1 ≤ 100000000) (hbase : base ≤ w1.heap.size)
  (h : ∀ g cap w', Grow Lay.tItem w' base 125 (.slice (some ⟨g, 0, none⟩) (xs.length + 1) cap) (rows ++ [row]) (xs ++ [x]) (bls ++ [bl]) → Below base w1 w' → Ext (fun q => v.ownBlock = some q) w1 w' → g < w'.heap.size → w1.heap.size ≤ w'.heap.size → (v.ownBlock = some g ∨ w1.heap.size ≤ g) → wpList Tryz.prog ops Q rest (a.put o.dst (.slice (some ⟨g, 0, none⟩) (xs.length + 1) cap)) w') :
  wpList Tryz.prog ops Q (o :: rest) a (w1.alloc (.cells row.toArray 125)) := by
 obtain ⟨i0, hi0, hz0, hz1, hz2⟩ := info_parts infoAppItem
 obtain ⟨h1, hlen⟩ := one_Item hl
 refine wpList_append_lies _ hgd s y 64 ho base 125 i0 _ 2 32 Tryz.underlying64 hi0 hz0 hz1 hz2 rfl (by omega) v xs.length rows.flatten hs (hG.own.alloc _) ⟨w1.heap.size, 0, none⟩ 1 1 row hy hlen (World.news_of_block (cs := row.toArray) (t := 125) (fr := (0, 0)) (heap_alloc_new w1 _)) h1 (by omega) (by unfold maxLen; omega) (by omega) (by simp; omega) (w1.alloc (.cells row.toArray 125)).heap.size rfl ?_
 intro g cap w' h2 h3 h4 h5
 have hg := grown_alloc h3
 have hbw : Below base w1 w' := (Below.refl _ _).grown hg hbase (fun j hj => (hG.own.lt j hj).1)
 have hor : v.ownBlock = some g ∨ w1.heap.size ≤ g := by
  rcases h4 with h4 | h4
  ·
   exact Or.inl h4
  exact Or.inr (by rw [h4]; simp)
 exact h g cap w' (hG.snoc hl hbl h2 hg hor) hbw ⟨hbw.os, hbw.tape, hbw.output, hbw.size, fun k hk hn => hg.block k hk (fun e => hn e.symm)⟩ h5 hbw.size hor
theorem step_append_Item {w1 : World} {base : Nat} {v : Value} {rows : List (List Value)} {xs : List DItem} {bls : List (List Nat)} (hG : Grow Lay.tItem w1 base 125 v rows xs bls) {row : List Value} {x : DItem} {bl : List Nat} (hl : Lay.tItem.lies w1 row x bl) (hbl : ∀ b ∈ bl, v.ownBlock ≠ some b) {ops : Array Oper} {o : Oper} {a : Act} {K : Act → World → Prop} {Q : Exit → Act → World → Prop} {E : Prop} (hgd : o.guard = none) (s y : Operand)
  (ho : o.op = .call { callee := .builtin .append, args := #[s, y], argTypes := #[64, 64] }) (hs : a.eval s = v) (hy : a.eval y = .slice (some ⟨w1.heap.size, 0, none⟩) 1 1) (hn : xs.length + 1 ≤ 100000000) (hbase : base ≤ w1.heap.size)
  (h : ∀ g cap w', Grow Lay.tItem w' base 125 (.slice (some ⟨g, 0, none⟩) (xs.length + 1) cap) (rows ++ [row]) (xs ++ [x]) (bls ++ [bl]) → Below base w1 w' → Ext (fun q => v.ownBlock = some q) w1 w' → g < w'.heap.size → w1.heap.size ≤ w'.heap.size → (v.ownBlock = some g ∨ w1.heap.size ≤ g) → K (a.put o.dst (.slice (some ⟨g, 0, none⟩) (xs.length + 1) cap)) w') :
  if Region.wanted o (yielded ops a.tmps) = true then Oper.wp Tryz.prog o a (w1.alloc (.cells row.toArray 125)) K Q else E := by
 obtain ⟨i0, hi0, hz0, hz1, hz2⟩ := info_parts infoAppItem
 obtain ⟨h1, hlen⟩ := one_Item hl
 refine step_append_lies _ hgd s y 64 ho base 125 i0 _ 2 32 Tryz.underlying64 hi0 hz0 hz1 hz2 rfl (by omega) v xs.length rows.flatten hs (hG.own.alloc _) ⟨w1.heap.size, 0, none⟩ 1 1 row hy hlen (World.news_of_block (cs := row.toArray) (t := 125) (fr := (0, 0)) (heap_alloc_new w1 _)) h1 (by omega) (by unfold maxLen; omega) (by omega) (by simp; omega) (w1.alloc (.cells row.toArray 125)).heap.size rfl ?_
 intro g cap w' h2 h3 h4 h5
 have hg := grown_alloc h3
 have hbw : Below base w1 w' := (Below.refl _ _).grown hg hbase (fun j hj => (hG.own.lt j hj).1)
 have hor : v.ownBlock = some g ∨ w1.heap.size ≤ g := by
  rcases h4 with h4 | h4
  ·
   exact Or.inl h4
  exact Or.inr (by rw [h4]; simp)
 exact h g cap w' (hG.snoc hl hbl h2 hg hor) hbw ⟨hbw.os, hbw.tape, hbw.output, hbw.size, fun k hk hn => hg.block k hk (fun e => hn e.symm)⟩ h5 hbw.size hor
theorem l1Ints (v : Value) (zs : List Int) (w : World) (h : IsInts w v zs) (hn : zs.length ≤ 100000000) :
  Calls Tryz.prog 103 #[v] w fun e w' => ∃ v', e = .returned v' ∧ w'.ownsRow w.heap.size 2 1 v' zs.length (zs.map (Value.int .i64)) ∧ Below w.heap.size w w' := by
 have nb : Below w.heap.size w (w.alloc (.cells #[] 2)) := (Below.refl _ _).alloc (Nat.le_refl _) _
 have O : (w.alloc (.cells #[] 2)).ownsRow w.heap.size 2 1 (.slice (some ⟨w.heap.size, 0, none⟩) 0 0) 0 [] := World.ownsRow_lit w _ 0 (Nat.le_refl _) (by unfold maxLen; omega) rfl
 have h1 := h.later nb
 obtain ⟨ao, cap, rfl, -⟩ := h
 have HB := yh nb
 clear nb
 go_enter Tryz.func103, Tryz.ntmps103
 go_wp2_with (at_builtin; refine wpList_append_ints O h1 rfl _ _ rfl rfl rfl (by omega) (by simp) ?_)
 rintro v' w' O2 - hb
 have HB2 := yh ((uh HB).trans hb)
 clear O h1 hb HB
 go_wp2_with fail
 go_ret
 exact ⟨v', rfl, by simpa using O2, uh HB2⟩
theorem specCopy_pos (b off cap : Nat) (xs : List DItem) (w : World) (h : (Lay.sl Lay.tItem).Reads w [.slice (some ⟨b, off, none⟩) xs.length cap] xs) (hbl : b < w.heap.size) (hn : xs.length ≤ 10000000) (hv : ∀ x ∈ xs, x.vec.length ≤ 100000000) :
  Calls Tryz.prog 262 #[.slice (some ⟨b, off, none⟩) xs.length cap] w fun e w' => ∃ v', e = .returned v' ∧ (∃ rows bls, Grow Lay.tItem w' w.heap.size 125 v' rows xs bls ∧ ∀ c ∈ bls.flatten, w.heap.size ≤ c) ∧ Below w.heap.size w w' := by
 have H := yh h
 have HV := yh hv
 clear h hv
 have G0 : Grow Lay.tItem (w.alloc (.cells #[] 125)) w.heap.size 125 (.slice (some ⟨w.heap.size, 0, none⟩) 0 0) [] [] [] := Grow.nil (World.ownsRow_lit w #[] 0 (Nat.le_refl _) (Nat.zero_le _) rfl)
 have HG := yh G0
 have HB0 := yh ((Below.refl w.heap.size w).alloc (Nat.le_refl _) (.cells #[] 125))
 clear G0
 go_enter Tryz.func262, Tryz.ntmps262
 go_wp2_with fail
 go_loopw [3, 4] (fun v i wr => ∃ (k : Nat) (rows : List (List Value)) (bls : List (List Nat)), k ≤ xs.length ∧ i = .int .i64 k ∧ Grow Lay.tItem wr w.heap.size 125 v rows (xs.take k) bls ∧ (∀ c ∈ bls.flatten, w.heap.size ≤ c) ∧ Below w.heap.size w wr) (fun _ i _ => xs.length - (intOf i).toNat)
 case atStart => exact ⟨0, [], [], Nat.zero_le _, rfl, uh HG, by simp, uh HB0⟩
 case round =>
  obtain ⟨k, rows, bls, hk, rfl, hG, hS, hB⟩ := hrel
  have HS := yh hS
  clear hS
  clear HG HB0
  by_cases hlt : k < xs.length
  ·
   obtain ⟨row, hc, hr⟩ := Lay.row_at (uh H) hlt
   have hr2 := hr
   obtain ⟨a1, d1, rfl, R1⟩ := open_Item hr
   have c0 : w.cell? ⟨b, off + k * 2, none⟩ = some (.int .i64 (xs[k]).id) := hc 0 (by decide)
   have c1 : w.cell? ⟨b, off + k * 2 + 1, none⟩ = some (.slice a1 (xs[k]).vec.length d1) := hc 1 (by decide)
   have hwi : (Lit.int .i64 xs[k].id).wf = true := by obtain ⟨_, hq⟩ := hr2; obtain ⟨_, _, _, _, _, q, _⟩ := lies_Item.1 hq; exact q
   have HT : Hid (xs.take (k + 1) = xs.take k ++ [xs[k]]) := List.take_succ_eq_append_getElem hlt
   have HL : Hid ((xs.take k).length = k) := by show (xs.take k).length = k; rw [List.length_take]; omega
   have HN := yh (uh HV xs[k] (List.getElem_mem hlt))
   clear hc hr hr2
   generalize hx : xs[k] = x at *
   clear hx
   have HW := yh (Lay.ints_reads R1).wf
   have HR := yh R1
   have HI := yh hwi
   have HB := yh hB
   have HK : Hid ((xs.take k).length + 1 ≤ 100000000) := by show (xs.take k).length + 1 ≤ 100000000; rw [uh HL]; omega
   have hGD : Grow Lay.tItem wr.drew w.heap.size 125 u3 rows (xs.take k) bls := hG.later (below_drawn (Below.refl _ _) 1)
   have HDZ : Hid (wr.heap.size ≤ wr.drew.heap.size) := Nat.le_refl _
   clear R1 hwi hB hG
   have i1 : (0 : Int) ≤ (k : Int) := by omega
   have i2 : (k : Int) < (xs.length : Int) := by omega
   go_wp2_with fail
   refine wp_region_noPanic ?_
   refine wp_region_held_drew (S := fun w' => Below w.heap.size w w') (by kernel_rfl) (uh HB).drew (fun zq => ?_)
   generalize wr.drew = wD at zq hGD HDZ ⊢
   refine tkH 0 zq ?_
   refine tkH 1 zq ?_
   refine tkH 2 zq ?_
   refine tkH 3 zq ?_
   refine tkH 4 zq ?_
   refine tkJ 5 (v := ?v5) ?h5 zq ?r5
   case h5 =>
    intro wS hSw
    have y0 := (hSw.cell (p := ⟨b, off + k * 2, none⟩) hbl).trans c0
    have y1 := (hSw.cell (p := ⟨b, off + k * 2 + 1, none⟩) hbl).trans c1
    clear hSw
    (try dsimp only at hSw)
    go_simp
    try with_reducible rfl
   refine tkH 6 zq ?_
   refine tkH 7 zq ?_
   refine tkH 8 zq ?_
   refine tkH 9 zq ?_
   refine tkJ 10 (v := ?v10) ?h10 zq ?r10
   case h10 =>
    intro wS hSw
    have y0 := (hSw.cell (p := ⟨b, off + k * 2, none⟩) hbl).trans c0
    have y1 := (hSw.cell (p := ⟨b, off + k * 2 + 1, none⟩) hbl).trans c1
    clear hSw
    (try dsimp only at hSw)
    go_simp
    try with_reducible rfl
   refine rdH 11 (fun K hK => ?_)
   go_simp
   go_at_call 103
   refine (l1Ints _ x.vec _ (Lay.ints_reads ((uh HR).later zq)) (uh HN)).mono ?_
   rintro e w3 ⟨v2, rfl, hO, hbw⟩
   have hO2 := Lay.ownInts (uh HW) (by have := uh HN; omega) hO
   clear hO
   obtain ⟨ao2, cp2, rfl⟩ := open_sl hO2.reads
   have hG3 := hGD.later hbw
   have hz3 := hbw.size
   try go_wp2_with fail
   refine hK.out _ _ (zq.trans (hbw.mono zq.size)) (fun zq => ?_)
   clear hK K
   try simp only [Act.put, pz, py, px]
   refine tkH 12 zq ?_
   refine rdH 13 (fun K hK => ?_)
   have hH3 := zq
   go_simp
   refine hK.out _ _ (zq.alloc zq.size _) (fun zq => ?_)
   clear hK K
   try simp only [Act.put, pz, py, px]
   refine rdH 14 (fun K hK => ?_)
   obtain ⟨bl2, ⟨hl2, -, -⟩, hr2⟩ := hO2
   refine step_append_Item hG3 (row := [.int .i64 x.id, .slice ao2 x.vec.length cp2]) (x := x) (lies_Item.2 ⟨ao2, cp2, bl2, rfl, rfl, uh HI, hl2⟩) (fun c hc e => by have h1 := hr2 c hc; have h2 := (hGD.own.lt c e).2; omega) rfl _ _ rfl rfl rfl (by have := uh HK; omega) (by have := hH3.size; omega) ?_
   rintro g5 cp5 w5 hG5 hb5 - hl5 hz5 -
   have HS5 : Hid (∀ c ∈ (bls ++ [bl2]).flatten, w.heap.size ≤ c) := by
    intro c hc
    rw [List.flatten_append] at hc
    rcases List.mem_append.1 hc with hc | hc
    ·
     exact uh HS c hc
    have h1 := hr2 c (by simpa using hc)
    have h2 := (uh HB).size
    have h4 := uh HDZ
    omega
   refine hK.out _ _ (hH3.trans hb5) (fun zq => ?_)
   clear hK K
   try simp only [Act.put, pz, py, px]
   refine tkH 15 zq ?_
   refine wpAnyH_done (by kernel_rfl) ?_ _
   refine NoPanic.normal ?_
   have HG5 := yh hG5
   have HB5 := yh zq
   clear zq hG5 hGD hG3
   go_wp2_with fail
   go_roundw
   case rel =>
    have hg := uh HG5
    rw [← uh HT, uh HL] at hg
    exact ⟨k + 1, _, _, by omega, by go_num, hg, uh HS5, uh HB5⟩
   case measure => simp [intOf]; omega
  obtain rfl : k = xs.length := by omega
  rw [List.take_length] at hG
  have HG := yh hG
  have HB := yh hB
  clear hG hB H
  go_wp2_with fail
  go_ret
  exact ⟨_, rfl, ⟨_, _, uh HG, uh HS⟩, uh HB⟩
theorem specCopyG (v : Value) (xs : List DItem) (w : World) (h : (Lay.sl Lay.tItem).Reads w [v] xs) (hn : xs.length ≤ 10000000) (hv : ∀ x ∈ xs, x.vec.length ≤ 100000000) :
  Calls Tryz.prog 262 #[v] w fun e w' => ∃ v', e = .returned v' ∧ (∃ rows bls, Grow Lay.tItem w' w.heap.size 125 v' rows xs bls ∧ ∀ c ∈ bls.flatten, w.heap.size ≤ c) ∧ Below w.heap.size w w' := by
 obtain ⟨ao, cap, rfl⟩ := open_sl h
 by_cases hp : 0 < xs.length
 ·
  obtain ⟨b, off, rfl, hbl⟩ := Lay.sl_addr h hp
  exact specCopy_pos b off cap xs w h hbl hn hv
 obtain rfl : xs = [] := List.eq_nil_of_length_eq_zero (by omega)
 clear h hp hn hv
 have HB := yh ((Below.refl w.heap.size w).alloc (Nat.le_refl _) (.cells #[] 125))
 have HG : Hid (Grow Lay.tItem (w.alloc (.cells #[] 125)) w.heap.size 125 (.slice (some ⟨w.heap.size, 0, none⟩) 0 0) [] [] []) := Grow.nil (World.ownsRow_lit w #[] 0 (Nat.le_refl _) (Nat.zero_le _) rfl)
 go_enter Tryz.func262, Tryz.ntmps262
 go_wp2_with fail
 refine wp_loop_rounds 1 ?_
 rw [rounds_succ]
 go_wp2_with fail
 go_ret
 exact ⟨_, rfl, ⟨_, _, uh HG, by simp⟩, uh HB⟩
theorem specCopy (v : Value) (xs : List DItem) (w : World) (h : (Lay.sl Lay.tItem).Reads w [v] xs) (hn : xs.length ≤ 10000000) (hv : ∀ x ∈ xs, x.vec.length ≤ 100000000) :
  Calls Tryz.prog 262 #[v] w fun e w' => ∃ v', e = .returned v' ∧ (Lay.sl Lay.tItem).LiesIn w' [v'] xs w.heap.size w'.heap.size ∧ Below w.heap.size w w' := by
 refine (specCopyG v xs w h hn hv).mono ?_
 rintro e w' ⟨v', rfl, ⟨rows, bls, hG, hs⟩, hb⟩
 exact ⟨v', rfl, hG.toLies (by omega) hs, hb⟩
theorem take_fold (nw : DItem) (st : List DItem × Bool) (xs : List DItem) (k : Nat) (h : k < xs.length) : (xs.take (k + 1)).foldl (setStep nw) st = setStep nw ((xs.take k).foldl (setStep nw) st) xs[k] := by
 rw [List.take_succ_eq_append_getElem h, List.foldl_append]
 rfl
theorem specSet_pos (b off cap : Nat) (xs : List DItem) (nw : DItem) (a2 : Option Addr) (d2 : Nat) (has : Bool) (w : World) (h : (Lay.sl Lay.tItem).Reads w [.slice (some ⟨b, off, none⟩) xs.length cap] xs) (hv : (Lay.sl Lay.int).Reads w [.slice a2 nw.vec.length d2] nw.vec) (hw : (Lit.int .i64 nw.id).wf = true)
  (hbl : b < w.heap.size) (hn : xs.length ≤ 1000000) (hx : ∀ x ∈ xs, x.vec.length ≤ 100000000) (hx2 : nw.vec.length ≤ 100000000) :
  Calls Tryz.prog 261 #[.slice (some ⟨b, off, none⟩) xs.length cap, .int .i64 nw.id, .slice a2 nw.vec.length d2, .bool has] w fun e w' => ∃ v', e = .returned v' ∧ (∃ rows bls, Grow Lay.tItem w' w.heap.size 125 v' rows (setM xs nw has) bls ∧ ∀ c ∈ bls.flatten, w.heap.size ≤ c) ∧ Below w.heap.size w w' := by
 obtain ⟨blN, hlN⟩ := hv
 have hN : Lay.tItem.lies w [.int .i64 nw.id, .slice a2 nw.vec.length d2] nw blN := lies_Item.2 ⟨a2, d2, blN, rfl, rfl, hw, hlN⟩
 have hNl : ∀ c ∈ blN, c < w.heap.size := Lay.tItem.lt hN
 have HN := yh hN
 have HNL := yh hNl
 have H := yh h
 have HX := yh hx
 clear h hx hlN hN hNl
 have G0 : Grow Lay.tItem (w.alloc (.cells #[] 125)) w.heap.size 125 (.slice (some ⟨w.heap.size, 0, none⟩) 0 0) [] [] [] := Grow.nil (World.ownsRow_lit w #[] 0 (Nat.le_refl _) (Nat.zero_le _) rfl)
 have HG := yh G0
 have HB0 := yh ((Below.refl w.heap.size w).alloc (Nat.le_refl _) (.cells #[] 125))
 clear G0
 go_enter Tryz.func261, Tryz.ntmps261
 go_wp2_with fail
 go_loopw [9, 10, 11] (fun v d i wr => ∃ (k : Nat) (rows : List (List Value)) (bls : List (List Nat)) (out : List DItem) (dn : Bool), k ≤ xs.length ∧ i = .int .i64 k ∧ d = .bool dn ∧ (xs.take k).foldl (setStep nw) ([], !has) = (out, dn) ∧ out.length ≤ 2 * k ∧ (∀ x ∈ out, x.vec.length ≤ 100000000) ∧ Grow Lay.tItem wr w.heap.size 125 v rows out bls ∧ Below w.heap.size w wr) (fun _ _ i _ => xs.length - (intOf i).toNat)
 case atStart => exact ⟨0, [], [], [], !has, Nat.zero_le _, rfl, rfl, rfl, by simp, by simp, uh HG, uh HB0⟩
 case round =>
  obtain ⟨k, rows, bls, out, dn, hk, rfl, rfl, hst, hol, hov, hG, hB⟩ := hrel
  clear HG HB0
  by_cases hlt : k < xs.length
  ·
   obtain ⟨row, hc, hr⟩ := Lay.row_at (uh H) hlt
   obtain ⟨blX, hlX⟩ := hr
   obtain ⟨a1, d1, bb, rfl, hbb, hwi, hlv⟩ := lies_Item.1 hlX
   have hXl : ∀ c ∈ blX, c < w.heap.size := Lay.tItem.lt hlX
   have c0 : wr.cell? ⟨b, off + k * 2, none⟩ = some (.int .i64 (xs[k]).id) := (hB.cell (p := ⟨b, off + k * 2, none⟩) hbl).trans (hc 0 (by decide))
   have c1 : wr.cell? ⟨b, off + k * 2 + 1, none⟩ = some (.slice a1 (xs[k]).vec.length d1) := (hB.cell (p := ⟨b, off + k * 2 + 1, none⟩) hbl).trans (hc 1 (by decide))
   have hbr : b < wr.heap.size := Nat.lt_of_lt_of_le hbl hB.size
   have HST : Hid ((xs.take (k + 1)).foldl (setStep nw) ([], !has) = setOld nw (setNew nw (out, dn) xs[k]) xs[k]) := by
    show (xs.take (k + 1)).foldl (setStep nw) ([], !has) = _
    rw [take_fold nw _ xs k hlt, hst]
    rfl
   have HXV := yh (uh HX xs[k] (List.getElem_mem hlt))
   have HLX := yh (Lay.tItem.keep hlX fun c hc => hB.block c (hXl c hc))
   have HXL := yh hXl
   have HLN := yh (Lay.tItem.keep (uh HN) fun c hc => hB.block c (uh HNL c hc))
   clear hc hlX hbb hwi hlv hst
   generalize hx : xs[k] = x at *
   clear hx
   have HG := yh hG
   have HB := yh hB
   have HOV := yh hov
   clear hG hB hov
   have hnx : out.length + 3 ≤ 100000000 := by omega
   by_cases hA : dn = false ∧ nw.id ≤ x.id
   ·
    obtain ⟨rfl, hle⟩ := hA
    have hd1 : decide (nw.id ≤ x.id) = true := by simpa using hle
    have e1 : setNew nw (out, false) x = (out ++ [nw], true) := by simp [setNew, hle]
    rw [e1] at HST
    have hG := uh HG
    have hoff : ∀ c ∈ blN, u9.ownBlock ≠ some c := fun c hc e => by have h1 := uh HNL c hc; have h2 := (hG.own.lt c e).1; omega
    have hLN := uh HLN
    have HZ : Hid (w.heap.size ≤ wr.heap.size) := (uh HB).size
    clear e1 hle HLN HG
    go_wp2_with (at_builtin; refine wpList_append_Item hG hLN hoff rfl _ _ rfl rfl rfl (by omega) (uh HZ) ?_)
    rintro g5 cp5 w5 hG5 hb5 hE5 hl5 hz5 hor
    have d0 : w5.cell? ⟨b, off + k * 2, none⟩ = some (.int .i64 x.id) := (hb5.cell (p := ⟨b, off + k * 2, none⟩) hbl).trans c0
    have d1' : w5.cell? ⟨b, off + k * 2 + 1, none⟩ = some (.slice a1 x.vec.length d1) := (hb5.cell (p := ⟨b, off + k * 2 + 1, none⟩) hbl).trans c1
    have hbr5 : b < w5.heap.size := by omega
    have HLX5 := yh (Lay.tItem.keep (uh HLX) fun c hc => hb5.block c (uh HXL c hc))
    have HB5 := yh ((uh HB).trans hb5)
    have HG5 := yh hG5
    clear hG hoff hLN hG5 hb5 hE5 hor HB HLX c0 c1 hd1 HZ hz5
    have HOV5 : Hid (∀ y ∈ out ++ [nw], y.vec.length ≤ 100000000) := by
     intro y hy
     rcases List.mem_append.1 hy with hy | hy
     ·
      exact uh HOV y hy
     rw [List.mem_singleton.1 hy]; exact hx2
    by_cases he : x.id = nw.id
    ·
     have hd2 : (x.id != nw.id) = false := by simpa using he
     have e2 : setOld nw (out ++ [nw], true) x = (out ++ [nw], true) := by rw [setOld, if_pos he]
     rw [e2] at HST
     clear he e2 HLX5
     go_wp2_with fail
     go_roundw
     case rel => exact ⟨k + 1, _, _, out ++ [nw], true, by omega, by go_num, rfl, uh HST, by simp; omega, uh HOV5, uh HG5, uh HB5⟩
     case measure => simp [intOf]; omega
    have hd2 : (x.id != nw.id) = true := by simpa using he
    have e2 : setOld nw (out ++ [nw], true) x = (out ++ [nw] ++ [x], true) := by rw [setOld, if_neg he]
    rw [e2] at HST
    have hG := uh HG5
    have hoff : ∀ c ∈ blX, (Value.slice (some ⟨g5, 0, none⟩) (out.length + 1) cp5).ownBlock ≠ some c := fun c hc e => by have h1 := uh HXL c hc; have h2 := (hG.own.lt c e).1; omega
    have hLX := uh HLX5
    have HZ : Hid (w.heap.size ≤ w5.heap.size) := (uh HB5).size
    clear he e2 HLX5 HG5
    go_wp2_with (at_builtin; refine wpList_append_Item hG hLX hoff rfl _ _ rfl rfl rfl (by simp; omega) (uh HZ) ?_)
    rintro g6 cp6 w6 hG6 hb6 hE6 hl6 hz6 hor6
    have HB6 := yh ((uh HB5).trans hb6)
    have HG6 := yh hG6
    have HOV6 : Hid (∀ y ∈ out ++ [nw] ++ [x], y.vec.length ≤ 100000000) := by
     intro y hy
     rcases List.mem_append.1 hy with hy | hy
     ·
      exact uh HOV5 y hy
     rw [List.mem_singleton.1 hy]; exact uh HXV
    clear hG hoff hLX hG6 hb6 hE6 hor6 HB5 d0 d1' hd2 HZ hz6
    go_wp2_with fail
    go_roundw
    case rel =>
     have hg := uh HG6
     have e3 : out ++ [nw] ++ [x] = out ++ [nw, x] := by simp
     have hs := uh HST
     have ho := uh HOV6
     rw [e3] at hs ho
     exact ⟨k + 1, _, _, out ++ [nw, x], true, by omega, by go_num, rfl, hs, by simp; omega, ho, hg, uh HB6⟩
    case measure => simp [intOf]; omega
   have e1 : setNew nw (out, dn) x = (out, dn) := by rw [setNew, if_neg hA]
   rw [e1] at HST
   have hcond : dn = true ∨ decide (nw.id ≤ x.id) = false := by
    cases dn with
    | true => exact Or.inl rfl
    | false => right; simpa using hA
   clear e1 hA
   by_cases he : x.id = nw.id
   ·
    have hd2 : (x.id != nw.id) = false := by simpa using he
    have e2 : setOld nw (out, dn) x = (out, dn) := by rw [setOld, if_pos he]
    rw [e2] at HST
    clear he e2 HLX HLN
    rcases hcond with rfl | hd1
    ·
     go_wp2_with fail
     go_roundw
     case rel => exact ⟨k + 1, _, _, out, true, by omega, by go_num, rfl, uh HST, by omega, uh HOV, uh HG, uh HB⟩
     case measure => simp [intOf]; omega
    cases dn with
    | true =>
     go_wp2_with fail
     go_roundw
     case rel => exact ⟨k + 1, _, _, out, true, by omega, by go_num, rfl, uh HST, by omega, uh HOV, uh HG, uh HB⟩
     case measure => simp [intOf]; omega
    | false =>
     go_wp2_with fail
     go_roundw
     case rel => exact ⟨k + 1, _, _, out, false, by omega, by go_num, rfl, uh HST, by omega, uh HOV, uh HG, uh HB⟩
     case measure => simp [intOf]; omega
   have hd2 : (x.id != nw.id) = true := by simpa using he
   have e2 : setOld nw (out, dn) x = (out ++ [x], dn) := by rw [setOld, if_neg he]
   rw [e2] at HST
   have hG := uh HG
   have hoff : ∀ c ∈ blX, u9.ownBlock ≠ some c := fun c hc e => by have h1 := uh HXL c hc; have h2 := (hG.own.lt c e).1; omega
   have hLX := uh HLX
   have HZ : Hid (w.heap.size ≤ wr.heap.size) := (uh HB).size
   have HOV6 : Hid (∀ y ∈ out ++ [x], y.vec.length ≤ 100000000) := by
    intro y hy
    rcases List.mem_append.1 hy with hy | hy
    ·
     exact uh HOV y hy
    rw [List.mem_singleton.1 hy]; exact uh HXV
   clear he e2 HLX HLN HG
   have hcd : (dn = true) ∨ (dn = false ∧ decide (nw.id ≤ x.id) = false) := by
    rcases hcond with h | h
    ·
     exact Or.inl h
    cases dn with
    | true => exact Or.inl rfl
    | false => exact Or.inr ⟨rfl, h⟩
   clear hcond
   rcases hcd with rfl | ⟨rfl, hd1⟩
   ·
    go_wp2_with (at_builtin; refine wpList_append_Item hG hLX hoff rfl _ _ rfl rfl rfl (by omega) (uh HZ) ?_)
    rintro g6 cp6 w6 hG6 hb6 hE6 hl6 hz6 hor6
    have HB6 := yh ((uh HB).trans hb6)
    have HG6 := yh hG6
    clear hG hoff hLX hG6 hb6 hE6 hor6 HB c0 c1 hd2 HZ hz6
    go_wp2_with fail
    go_roundw
    case rel => exact ⟨k + 1, _, _, out ++ [x], true, by omega, by go_num, rfl, uh HST, by simp; omega, uh HOV6, uh HG6, uh HB6⟩
    case measure => simp [intOf]; omega
   go_wp2_with (at_builtin; refine wpList_append_Item hG hLX hoff rfl _ _ rfl rfl rfl (by omega) (uh HZ) ?_)
   rintro g6 cp6 w6 hG6 hb6 hE6 hl6 hz6 hor6
   have HB6 := yh ((uh HB).trans hb6)
   have HG6 := yh hG6
   clear hG hoff hLX hG6 hb6 hE6 hor6 HB c0 c1 hd2 HZ hz6 hd1
   go_wp2_with fail
   go_roundw
   case rel => exact ⟨k + 1, _, _, out ++ [x], false, by omega, by go_num, rfl, uh HST, by simp; omega, uh HOV6, uh HG6, uh HB6⟩
   case measure => simp [intOf]; omega
  obtain rfl : k = xs.length := by omega
  rw [List.take_length] at hst
  have HM : Hid (setM xs nw has = setFin nw (out, dn)) := by
   show setM xs nw has = _
   rw [setM, hst]
  have HG := yh hG
  have HB := yh hB
  have HOV := yh hov
  have HLN := yh (Lay.tItem.keep (uh HN) fun c hc => hB.block c (uh HNL c hc))
  clear hG hB hov hst H
  cases dn with
  | true =>
   have hR := (uh HG).toReads (by omega)
   have L := specCopyG u9 out wr hR (by omega) (uh HOV)
   have HL := yh L
   rw [setFin, if_pos rfl] at HM
   clear hR L HLN HG
   go_wp2_with fail
   refine (uh HL).mono ?_
   rintro e w6 ⟨v6, rfl, hR6, hb6⟩
   have HB6 := yh ((uh HB).trans (hb6.mono (uh HB).size))
   obtain ⟨rows6, bls6, hG6, hs6⟩ := hR6
   have HR6 : Hid (∃ rows bls, Grow Lay.tItem w6 w.heap.size 125 v6 rows _ bls ∧ ∀ c ∈ bls.flatten, w.heap.size ≤ c) := ⟨rows6, bls6, hG6.lower (uh HB).size, fun c hc => Nat.le_trans (uh HB).size (hs6 c hc)⟩
   clear hb6 hG6 hs6
   go_wp2_with fail
   go_ret
   exact ⟨_, rfl, by rw [uh HM]; exact uh HR6, uh HB6⟩
  | false =>
   have hG := uh HG
   have hoff : ∀ c ∈ blN, u9.ownBlock ≠ some c := fun c hc e => by have h1 := uh HNL c hc; have h2 := (hG.own.lt c e).1; omega
   have hLN := uh HLN
   have HZ : Hid (w.heap.size ≤ wr.heap.size) := (uh HB).size
   rw [setFin, if_neg (by simp)] at HM
   clear HLN HG
   go_wp2_with (at_builtin; refine wpList_append_Item hG hLN hoff rfl _ _ rfl rfl rfl (by omega) (uh HZ) ?_)
   rintro g5 cp5 w5 hG5 hb5 hE5 hl5 hz5 hor
   have HOV5 : Hid (∀ y ∈ out ++ [nw], y.vec.length ≤ 100000000) := by
    intro y hy
    rcases List.mem_append.1 hy with hy | hy
    ·
     exact uh HOV y hy
    rw [List.mem_singleton.1 hy]; exact hx2
   have hR := hG5.toReads (by simp; omega)
   have HL := yh (specCopyG _ (out ++ [nw]) w5 hR (by simp; omega) (uh HOV5))
   have HB5 := yh ((uh HB).trans hb5)
   clear hG hoff hLN hG5 hb5 hE5 hor HB HZ hR hz5
   go_wp2_with fail
   refine (uh HL).mono ?_
   rintro e w6 ⟨v6, rfl, hR6, hb6⟩
   have HB6 := yh ((uh HB5).trans (hb6.mono (uh HB5).size))
   obtain ⟨rows6, bls6, hG6, hs6⟩ := hR6
   have HR6 : Hid (∃ rows bls, Grow Lay.tItem w6 w.heap.size 125 v6 rows _ bls ∧ ∀ c ∈ bls.flatten, w.heap.size ≤ c) := ⟨rows6, bls6, hG6.lower (uh HB5).size, fun c hc => Nat.le_trans (uh HB5).size (hs6 c hc)⟩
   clear hb6 hG6 hs6
   go_wp2_with fail
   go_ret
   exact ⟨_, rfl, by rw [uh HM]; exact uh HR6, uh HB6⟩
theorem specSet_zero (ao : Option Addr) (cap : Nat) (nw : DItem) (a2 : Option Addr) (d2 : Nat) (has : Bool) (w : World) (hv : (Lay.sl Lay.int).Reads w [.slice a2 nw.vec.length d2] nw.vec) (hw : (Lit.int .i64 nw.id).wf = true) (hx2 : nw.vec.length ≤ 100000000) :
  Calls Tryz.prog 261 #[.slice ao 0 cap, .int .i64 nw.id, .slice a2 nw.vec.length d2, .bool has] w fun e w' => ∃ v', e = .returned v' ∧ (∃ rows bls, Grow Lay.tItem w' w.heap.size 125 v' rows (setM [] nw has) bls ∧ ∀ c ∈ bls.flatten, w.heap.size ≤ c) ∧ Below w.heap.size w w' := by
 obtain ⟨blN, hlN⟩ := hv
 have hN : Lay.tItem.lies w [.int .i64 nw.id, .slice a2 nw.vec.length d2] nw blN := lies_Item.2 ⟨a2, d2, blN, rfl, rfl, hw, hlN⟩
 have hNl : ∀ c ∈ blN, c < w.heap.size := Lay.tItem.lt hN
 have nb : Below w.heap.size w (w.alloc (.cells #[] 125)) := (Below.refl w.heap.size w).alloc (Nat.le_refl _) (.cells #[] 125)
 have G0 : Grow Lay.tItem (w.alloc (.cells #[] 125)) w.heap.size 125 (.slice (some ⟨w.heap.size, 0, none⟩) 0 0) [] [] [] := Grow.nil (World.ownsRow_lit w #[] 0 (Nat.le_refl _) (Nat.zero_le _) rfl)
 have hLN := Lay.tItem.keep hN fun c hc => nb.block c (hNl c hc)
 have hoff : ∀ c ∈ blN, (Value.slice (some ⟨w.heap.size, 0, none⟩) 0 0).ownBlock ≠ some c := fun c hc e => by have h1 := hNl c hc; simp [Value.ownBlock] at e; omega
 have HZ : Hid (w.heap.size ≤ (w.alloc (.cells #[] 125)).heap.size) := nb.size
 have HB0 := yh nb
 cases has with
 | false =>
  have HL := yh (specCopyG _ [] _ (G0.toReads (by simp)) (by simp) (by simp))
  clear G0 hLN hoff hN hNl hlN nb
  go_enter Tryz.func261, Tryz.ntmps261
  go_wp2_with fail
  refine wp_loop_rounds 1 ?_
  rw [rounds_succ]
  go_wp2_with fail
  refine (uh HL).mono ?_
  rintro e w6 ⟨v6, rfl, hR6, hb6⟩
  have HB6 := yh ((uh HB0).trans (hb6.mono (uh HB0).size))
  obtain ⟨rows6, bls6, hG6, hs6⟩ := hR6
  have HR6 : Hid (∃ rows bls, Grow Lay.tItem w6 w.heap.size 125 v6 rows _ bls ∧ ∀ c ∈ bls.flatten, w.heap.size ≤ c) := ⟨rows6, bls6, hG6.lower (uh HB0).size, fun c hc => Nat.le_trans (uh HB0).size (hs6 c hc)⟩
  clear hb6 hG6 hs6
  go_wp2_with fail
  go_ret
  exact ⟨_, rfl, uh HR6, uh HB6⟩
 | true =>
  clear hN hNl hlN nb
  go_enter Tryz.func261, Tryz.ntmps261
  go_wp2_with fail
  refine wp_loop_rounds 1 ?_
  rw [rounds_succ]
  generalize hW : w.alloc (.cells #[] 125) = W1 at *
  have hsz : w.heap.size < W1.heap.size := by rw [← hW]; simp
  clear hW
  go_wp2_with (at_builtin; refine wpList_append_Item G0 hLN hoff rfl _ _ rfl rfl rfl (by simp) (uh HZ) ?_)
  rintro g5 cp5 w5 hG5 hb5 hE5 hl5 hz5 hor
  have hR := hG5.toReads (by simp)
  have HL := yh (specCopyG _ ([] ++ [nw]) w5 hR (by simp) (by intro y hy; rw [List.mem_singleton.1 hy]; exact hx2))
  have HB5 := yh ((uh HB0).trans hb5)
  clear G0 hoff hLN hG5 hb5 hE5 hor HZ hR hz5
  go_wp2_with fail
  refine (uh HL).mono ?_
  rintro e w6 ⟨v6, rfl, hR6, hb6⟩
  have HB6 := yh ((uh HB5).trans (hb6.mono (uh HB5).size))
  obtain ⟨rows6, bls6, hG6, hs6⟩ := hR6
  have HR6 : Hid (∃ rows bls, Grow Lay.tItem w6 w.heap.size 125 v6 rows _ bls ∧ ∀ c ∈ bls.flatten, w.heap.size ≤ c) := ⟨rows6, bls6, hG6.lower (uh HB5).size, fun c hc => Nat.le_trans (uh HB5).size (hs6 c hc)⟩
  clear hb6 hG6 hs6
  go_wp2_with fail
  go_ret
  exact ⟨_, rfl, uh HR6, uh HB6⟩
theorem specSetG (v : Value) (xs : List DItem) (id : Int) (vec : List Int) (vv : Value) (has : Bool) (w : World) (h : (Lay.sl Lay.tItem).Reads w [v] xs) (hv : (Lay.sl Lay.int).Reads w [vv] vec) (hw : (Lit.int .i64 id).wf = true)
  (hn : xs.length ≤ 1000000) (hx : ∀ x ∈ xs, x.vec.length ≤ 100000000) (hx2 : vec.length ≤ 100000000) :
  Calls Tryz.prog 261 #[v, .int .i64 id, vv, .bool has] w fun e w' => ∃ v', e = .returned v' ∧ (∃ rows bls, Grow Lay.tItem w' w.heap.size 125 v' rows (setM xs ⟨id, vec⟩ has) bls ∧ ∀ c ∈ bls.flatten, w.heap.size ≤ c) ∧ Below w.heap.size w w' := by
 obtain ⟨ao, cap, rfl⟩ := open_sl h
 obtain ⟨ao2, cap2, rfl⟩ := open_sl hv
 by_cases hp : 0 < xs.length
 ·
  obtain ⟨b, off, rfl, hbl⟩ := Lay.sl_addr h hp
  exact specSet_pos b off cap xs ⟨id, vec⟩ ao2 cap2 has w h hv hw hbl hn hx hx2
 obtain rfl : xs = [] := List.eq_nil_of_length_eq_zero (by omega)
 exact specSet_zero ao cap ⟨id, vec⟩ ao2 cap2 has w hv hw hx2
theorem specSet (v : Value) (xs : List DItem) (id : Int) (vec : List Int) (vv : Value) (has : Bool) (w : World) (h : (Lay.sl Lay.tItem).Reads w [v] xs) (hv : (Lay.sl Lay.int).Reads w [vv] vec) (hw : (Lit.int .i64 id).wf = true)
  (hn : xs.length ≤ 1000000) (hx : ∀ x ∈ xs, x.vec.length ≤ 100000000) (hx2 : vec.length ≤ 100000000) :
  Calls Tryz.prog 261 #[v, .int .i64 id, vv, .bool has] w fun e w' => ∃ v', e = .returned v' ∧ (Lay.sl Lay.tItem).LiesIn w' [v'] (setM xs ⟨id, vec⟩ has) w.heap.size w'.heap.size ∧ Below w.heap.size w w' := by
 refine (specSetG v xs id vec vv has w h hv hw hn hx hx2).mono ?_
 rintro e w' ⟨v', rfl, ⟨rows, bls, hG, hs⟩, hb⟩
 have hl := setM_size xs ⟨id, vec⟩ has
 exact ⟨v', rfl, hG.toLies (by omega) hs, hb⟩
theorem find_first {xs : List DItem} {id : Int} (k : Nat) (hk : k < xs.length) (h : ∀ j (hj : j < xs.length), j < k → xs[j].id ≠ id) (e : xs[k].id = id) : xs.find? (fun x => x.id == id) = some xs[k] := by
 induction xs generalizing k with
 | nil => simp at hk
 | cons x xs ih =>
  match k with
  | 0 => rw [List.find?_cons_of_pos (by simpa using e)]; rfl
  | k + 1 =>
   have h0 : x.id ≠ id := h 0 (by simp) (by omega)
   rw [List.find?_cons_of_neg (by simpa using h0)]
   exact ih k (by simpa using hk) (fun j hj hjk => h (j + 1) (by simpa using hj) (by omega)) (by simpa using e)
theorem has_none {xs : List DItem} {id : Int} (h : ∀ j (hj : j < xs.length), xs[j].id ≠ id) : hasI xs id = false := by
 simp only [hasI, List.any_eq_false, beq_iff_eq]
 intro x hx
 obtain ⟨j, hj, rfl⟩ := List.getElem_of_mem hx
 exact h j hj
def AtI (xs : List DItem) (id r : Int) : Prop := (r = -1 ∧ hasI xs id = false) ∨ ∃ (k : Nat) (h : k < xs.length), r = k ∧ xs.find? (fun x => x.id == id) = some xs[k]
theorem specAt_pos (b off cap : Nat) (xs : List DItem) (id : Int) (w : World) (h : (Lay.sl Lay.tItem).Reads w [.slice (some ⟨b, off, none⟩) xs.length cap] xs) :
  Calls Tryz.prog 102 #[.slice (some ⟨b, off, none⟩) xs.length cap, .int .i64 id] w fun e w' => (∃ r, e = .returned (.int .i64 r) ∧ AtI xs id r) ∧ w' = w := by
 have hbig := h.big
 have H := yh h
 clear h
 go_enter Tryz.func102, Tryz.ntmps102
 go_wp2_with fail
 go_loop [5] (fun i => ∃ k : Nat, k ≤ xs.length ∧ i = .int .i64 k ∧ ∀ j (hj : j < xs.length), j < k → xs[j].id ≠ id) (fun i => xs.length - (intOf i).toNat)
 case atStart => exact ⟨0, Nat.zero_le _, rfl, fun j _ hj => by omega⟩
 case round =>
  obtain ⟨k, hk, rfl, hq⟩ := hrel
  have HQ := yh hq
  clear hq
  by_cases hlt : k < xs.length
  ·
   obtain ⟨row, hc, hr⟩ := Lay.row_at (uh H) hlt
   obtain ⟨a1, d1, rfl, -⟩ := open_Item hr
   have c0 : w.cell? ⟨b, off + k * 2, none⟩ = some (.int .i64 (xs[k]).id) := hc 0 (by decide)
   clear hc hr
   by_cases e : xs[k].id = id
   ·
    have HA : Hid (AtI xs id k) := Or.inr ⟨k, hlt, rfl, find_first k hlt (uh HQ) e⟩
    have hd : (xs[k].id == id) = true := by simpa using e
    clear e
    go_wp2_with fail
    go_ret
    exact ⟨⟨_, rfl, uh HA⟩, rfl⟩
   have hd : (xs[k].id == id) = false := by simpa using e
   have HE := yh e
   clear e
   go_wp2_with fail
   go_round
   case rel =>
    refine ⟨k + 1, by omega, by go_num, fun j hj hjk => ?_⟩
    by_cases hjk2 : j < k
    ·
     exact uh HQ j hj hjk2
    obtain rfl : j = k := by omega
    exact uh HE
   case measure => simp [intOf]; omega
  have HA : Hid (AtI xs id (-1)) := Or.inl ⟨rfl, has_none fun j hj => uh HQ j hj (by omega)⟩
  clear H HQ
  go_wp2_with fail
  go_ret
  exact ⟨⟨_, rfl, uh HA⟩, rfl⟩
theorem specAt (v : Value) (xs : List DItem) (id : Int) (w : World) (h : (Lay.sl Lay.tItem).Reads w [v] xs) :
  Calls Tryz.prog 102 #[v, .int .i64 id] w fun e w' => (∃ r, e = .returned (.int .i64 r) ∧ AtI xs id r) ∧ w' = w := by
 obtain ⟨ao, cap, rfl⟩ := open_sl h
 by_cases hp : 0 < xs.length
 ·
  obtain ⟨b, off, rfl, hbl⟩ := Lay.sl_addr h hp
  exact specAt_pos b off cap xs id w h
 obtain rfl : xs = [] := List.eq_nil_of_length_eq_zero (by omega)
 clear h hp
 go_enter Tryz.func102, Tryz.ntmps102
 go_wp2_with fail
 refine wp_loop_rounds 1 ?_
 rw [rounds_succ]
 go_wp2_with fail
 go_ret
 exact ⟨⟨_, rfl, Or.inl ⟨rfl, rfl⟩⟩, rfl⟩
theorem right_small {xs : List DItem} (h : Right xs) : xs.length ≤ 1000000 ∧ ∀ x ∈ xs, x.vec.length ≤ 100000000 := by
 obtain ⟨hl, ha, -⟩ := tableFault_zero h
 exact ⟨by omega, fun x hx => by have := (vecFault_zero (ha x hx).2).1; omega⟩
theorem specApplyC (v : Value) (xs : List DItem) (b o : Nat) (vv : Value) (x : DWrite) (w : World) (h : (Lay.sl Lay.tItem).Reads w [v] xs) (hR : Right xs) (hA : WriteAtO w b o x.kind x.id vv x.session x.seq) (hv : (Lay.sl Lay.int).Reads w [vv] x.vec) (hx : wF x = 0) :
  Calls Tryz.prog 202 #[v, .pointer (some ⟨b, o, none⟩)] w fun e w' => ∃ v', e = .returned v' ∧ (Lay.sl Lay.tItem).LiesIn w' [v'] (applyI xs x) w.heap.size w'.heap.size ∧ Below w.heap.size w w' := by
 obtain ⟨hi, -, -, hk⟩ := writeFault_zero hx
 have hw := id_wf (idB_of hi)
 obtain ⟨s1, s2⟩ := right_small hR
 obtain ⟨hlen, -, hris⟩ := tableFault_zero hR
 obtain ⟨c0, c1, c2, -, -⟩ := hA
 have hbl : b < w.heap.size := World.block_lt_of_cell? _ _ c0
 obtain ⟨ao, cap, rfl⟩ := open_sl h
 obtain ⟨a2, d2, rfl⟩ := open_sl hv
 rcases hk with ⟨hk1, hvf⟩ | ⟨hk2, -⟩
 ·
  have hv3 := (vecFault_zero hvf).1
  have LP : Hid (∀ W, Below w.heap.size w W → Calls Tryz.prog 261 #[.slice ao xs.length cap, .int .i64 x.id, .slice a2 x.vec.length d2, .bool true] W fun e w' => ∃ v', e = .returned v' ∧ (Lay.sl Lay.tItem).LiesIn w' [v'] (putI xs x.id x.vec) W.heap.size w'.heap.size ∧ Below W.heap.size W w') := fun W hW => by
   have L := specSet _ xs x.id x.vec _ true W (h.later hW) (hv.later hW) hw s1 s2 (by omega)
   rw [setM_put hris] at L
   exact L
  have LA := yh (specAt _ xs x.id w h)
  have LC := yh (specCopy _ xs w h (by omega) s2)
  rw [hk1] at c0
  have HK := yh hk1
  have HB := yh (Below.refl w.heap.size w)
  have HDZ : Hid (w.heap.size ≤ w.drew.heap.size) := Nat.le_refl _
  clear h hv hvf hv3 hw hi s1 s2 hris hR hx hk1
  cases hro : roomB xs x.id with
  | true =>
   have HE : Hid (applyI xs x = putI xs x.id x.vec) := by
    show applyI xs x = _
    rw [applyI, if_neg (by rw [uh HK]; decide), hro, if_pos rfl]
   by_cases hl : xs.length < 30
   ·
    have hd : decide ((30 : Int) ≤ (xs.length : Int)) = false := by simp; omega
    clear hro LA LC
    go_enter Tryz.func202, Tryz.ntmps202
    go_wp2_with fail
    refine wp_region_noPanic ?_
    refine wp_region_held_drew (S := fun w' => Below w.heap.size w w') (by kernel_rfl) (uh HB).drew (fun zq => ?_)
    generalize w.drew = wD at zq HDZ ⊢
    refine tkH 0 zq ?_
    refine tkH 1 zq ?_
    refine tkH 2 zq ?_
    refine tkH 3 zq ?_
    refine tkJ 4 (v := ?vp4) ?hp4 zq ?rp4
    case hp4 =>
     intro wS hSw
     have y1 := (hSw.cell (p := ⟨b, o + 1, none⟩) hbl).trans c1
     have y2 := (hSw.cell (p := ⟨b, o + 2, none⟩) hbl).trans c2
     clear hSw
     (try dsimp only at hSw)
     go_simp
     try with_reducible rfl
    refine tkH 5 zq ?_
    refine tkH 6 zq ?_
    refine tkH 7 zq ?_
    refine tkJ 8 (v := ?vp8) ?hp8 zq ?rp8
    case hp8 =>
     intro wS hSw
     have y1 := (hSw.cell (p := ⟨b, o + 1, none⟩) hbl).trans c1
     have y2 := (hSw.cell (p := ⟨b, o + 2, none⟩) hbl).trans c2
     clear hSw
     (try dsimp only at hSw)
     go_simp
     try with_reducible rfl
    refine rdH 9 (fun K hK => ?_)
    go_simp
    go_at_call 261
    refine (uh LP _ zq).mono ?_
    rintro e w3 ⟨v3, rfl, hO, hbw⟩
    try go_wp2_with fail
    refine hK.out _ _ (zq.trans (hbw.mono zq.size)) (fun zq => ?_)
    clear hK K
    try simp only [Act.put, pz, py, px]
    refine tkH 10 zq ?_
    refine wpAnyH_done (by kernel_rfl) ?_ _
    refine NoPanic.normal ?_
    have HB3 := yh zq
    have HO := yh (hO.mono (lo' := w.heap.size) (uh HDZ) (Nat.le_refl _))
    clear zq hO
    go_wp2_with fail
    go_ret
    exact ⟨_, rfl, by rw [uh HE]; exact uh HO, uh HB3⟩
   have hd : decide ((30 : Int) ≤ (xs.length : Int)) = true := by simp; omega
   have hh : hasI xs x.id = true := by
    rcases room_true hro with h | h
    ·
     exact h
    omega
   have HH := yh hh
   clear hro hh LC
   go_enter Tryz.func202, Tryz.ntmps202
   go_wp2_with fail
   refine (uh LA).mono ?_
   rintro e w ⟨⟨r, rfl, hA⟩, rfl⟩
   rcases hA with ⟨rfl, hno⟩ | ⟨k, hk, rfl, -⟩
   ·
    rw [uh HH] at hno; cases hno
   have hd2 : decide ((k : Int) < 0) = false := by simp
   go_wp2_with fail
   refine wp_region_noPanic ?_
   refine wp_region_held_drew (S := fun w' => Below w.heap.size w w') (by kernel_rfl) (uh HB).drew (fun zq => ?_)
   generalize w.drew = wD at zq HDZ ⊢
   refine tkH 0 zq ?_
   refine tkH 1 zq ?_
   refine tkH 2 zq ?_
   refine tkH 3 zq ?_
   refine tkJ 4 (v := ?vq4) ?hq4 zq ?rq4
   case hq4 =>
    intro wS hSw
    have y1 := (hSw.cell (p := ⟨b, o + 1, none⟩) hbl).trans c1
    have y2 := (hSw.cell (p := ⟨b, o + 2, none⟩) hbl).trans c2
    clear hSw
    (try dsimp only at hSw)
    go_simp
    try with_reducible rfl
   refine tkH 5 zq ?_
   refine tkH 6 zq ?_
   refine tkH 7 zq ?_
   refine tkJ 8 (v := ?vq8) ?hq8 zq ?rq8
   case hq8 =>
    intro wS hSw
    have y1 := (hSw.cell (p := ⟨b, o + 1, none⟩) hbl).trans c1
    have y2 := (hSw.cell (p := ⟨b, o + 2, none⟩) hbl).trans c2
    clear hSw
    (try dsimp only at hSw)
    go_simp
    try with_reducible rfl
   refine rdH 9 (fun K hK => ?_)
   go_simp
   go_at_call 261
   refine (uh LP _ zq).mono ?_
   rintro e w3 ⟨v3, rfl, hO, hbw⟩
   try go_wp2_with fail
   refine hK.out _ _ (zq.trans (hbw.mono zq.size)) (fun zq => ?_)
   clear hK K
   try simp only [Act.put, pz, py, px]
   refine tkH 10 zq ?_
   refine wpAnyH_done (by kernel_rfl) ?_ _
   refine NoPanic.normal ?_
   have HB3 := yh zq
   have HO := yh (hO.mono (lo' := w.heap.size) (uh HDZ) (Nat.le_refl _))
   clear zq hO
   go_wp2_with fail
   go_ret
   exact ⟨_, rfl, by rw [uh HE]; exact uh HO, uh HB3⟩
  | false =>
   have HE : Hid (applyI xs x = xs) := by
    show applyI xs x = _
    rw [applyI, if_neg (by rw [uh HK]; decide), hro, if_neg (by simp)]
   obtain ⟨r1, r2⟩ := room_false hro
   have hd : decide ((30 : Int) ≤ (xs.length : Int)) = true := by simp; omega
   have HH := yh r1
   clear hro r1 r2 LP
   go_enter Tryz.func202, Tryz.ntmps202
   go_wp2_with fail
   refine (uh LA).mono ?_
   rintro e w ⟨⟨r, rfl, hA⟩, rfl⟩
   rcases hA with ⟨rfl, hno⟩ | ⟨k, hk, rfl, hfd⟩
   ·
    clear hno
    go_wp2_with fail
    refine (uh LC).mono ?_
    rintro e w3 ⟨v3, rfl, hO, hb⟩
    have HB3 := yh hb
    have HO := yh hO
    clear hb hO
    go_wp2_with fail
    go_ret
    exact ⟨_, rfl, by rw [uh HE]; exact uh HO, uh HB3⟩
   obtain ⟨hx, hxi⟩ := find_at hfd
   exact absurd hxi (hasI_false (uh HH) _ hx)
 have L := specSet _ xs x.id [] (.slice none 0 0) false w h (own_noInts (lo := 0) (hi := 0)).reads hw s1 s2 (by simp)
 rw [setM_drop] at L
 have HL := yh L
 have HE : Hid (applyI xs x = dropI xs x.id) := by
  show applyI xs x = _
  rw [applyI, if_pos hk2]
 rw [hk2] at c0
 clear h hv hw hi s1 s2 hris hR hx hk2 L
 go_enter Tryz.func202, Tryz.ntmps202
 go_wp2_with fail
 refine (uh HL).mono ?_
 rintro e w3 ⟨v3, rfl, hO, hb⟩
 have HB3 := yh hb
 have HO := yh hO
 clear hb hO HL
 go_wp2_with fail
 go_ret
 exact ⟨_, rfl, by rw [uh HE]; exact uh HO, uh HB3⟩
theorem specOf_pos (b off cap : Nat) (ws : List DWrite) (w : World) (h : (Lay.sl Lay.tWrite).Reads w [.slice (some ⟨b, off, none⟩) ws.length cap] ws) (hbl : b < w.heap.size) (hn : ws.length ≤ 200) (hall : ∀ x ∈ ws, wF x = 0) :
  Calls Tryz.prog 118 #[.slice (some ⟨b, off, none⟩) ws.length cap] w fun e w' => ∃ v', e = .returned v' ∧ (Lay.sl Lay.tItem).LiesIn w' [v'] (ofI ws) w.heap.size w'.heap.size ∧ Below w.heap.size w w' := by
 have H := yh h
 have HA := yh hall
 clear h hall
 have HB0 := yh ((Below.refl w.heap.size w).alloc (Nat.le_refl _) (.cells #[] 125))
 have HL0 : Hid ((Lay.sl Lay.tItem).LiesIn (w.alloc (.cells #[] 125)) [.slice (some ⟨w.heap.size, 0, none⟩) 0 0] [] w.heap.size (w.alloc (.cells #[] 125)).heap.size) := ⟨[], ⟨_, _, rfl, by simp, Or.inl ⟨rfl, rfl⟩⟩, by simp⟩
 go_enter Tryz.func118, Tryz.ntmps118
 go_wp2_with fail
 go_loopw [3, 4] (fun v i wr => ∃ k : Nat, k ≤ ws.length ∧ i = .int .i64 k ∧ (Lay.sl Lay.tItem).LiesIn wr [v] (ofI (ws.take k)) w.heap.size wr.heap.size ∧ Below w.heap.size w wr) (fun _ i _ => ws.length - (intOf i).toNat)
 case atStart => exact ⟨0, Nat.zero_le _, rfl, uh HL0, uh HB0⟩
 case round =>
  obtain ⟨k, hk, rfl, hO, hB⟩ := hrel
  clear HL0 HB0
  by_cases hlt : k < ws.length
  ·
   obtain ⟨row, hc, hr⟩ := Lay.row_at (uh H) hlt
   replace hr := hr.later hB
   obtain ⟨a2, d2, rfl, R2⟩ := open_Write hr
   have c0 : wr.cell? ⟨b, off + k * 5, none⟩ = some (.int .i64 (ws[k]).kind) := (hB.cell (p := ⟨b, off + k * 5, none⟩) hbl).trans (hc 0 (by decide))
   have c1 : wr.cell? ⟨b, off + k * 5 + 1, none⟩ = some (.int .i64 (ws[k]).id) := (hB.cell (p := ⟨b, off + k * 5 + 1, none⟩) hbl).trans (hc 1 (by decide))
   have c2 : wr.cell? ⟨b, off + k * 5 + 2, none⟩ = some (.slice a2 (ws[k]).vec.length d2) := (hB.cell (p := ⟨b, off + k * 5 + 2, none⟩) hbl).trans (hc 2 (by decide))
   have c3 : wr.cell? ⟨b, off + k * 5 + 3, none⟩ = some (.int .i64 (ws[k]).session) := (hB.cell (p := ⟨b, off + k * 5 + 3, none⟩) hbl).trans (hc 3 (by decide))
   have c4 : wr.cell? ⟨b, off + k * 5 + 4, none⟩ = some (.int .i64 (ws[k]).seq) := (hB.cell (p := ⟨b, off + k * 5 + 4, none⟩) hbl).trans (hc 4 (by decide))
   have HST := yh (ofI_snoc ws k hlt)
   have hRt := right_of_writes (ws.take k) fun x hx => uh HA x (List.mem_of_mem_take hx)
   have hf := uh HA ws[k] (List.getElem_mem hlt)
   clear hc hr
   generalize hx : ws[k] = x at *
   clear hx
   have L := specApplyC u3 (ofI (ws.take k)) b (off + k * 5) _ x wr hO.reads hRt ⟨c0, c1, c2, c3, c4⟩ R2 hf
   rw [← uh HST] at L
   have HL := yh L
   have HB := yh hB
   clear L R2 hO hB hRt hf c0 c1 c2 c3 c4
   go_wp2_with fail
   refine (uh HL).mono ?_
   rintro e w3 ⟨v3, rfl, hO3, hb⟩
   have HO3 := yh (hO3.mono (lo' := w.heap.size) (uh HB).size (Nat.le_refl _))
   have HB3 := yh ((uh HB).trans (hb.mono (uh HB).size))
   clear hO3 hb HB HL
   go_wp2_with fail
   go_roundw
   case rel => exact ⟨k + 1, by omega, by go_num, uh HO3, uh HB3⟩
   case measure => simp [intOf]; omega
  obtain rfl : k = ws.length := by omega
  rw [List.take_length] at hO
  have HO := yh hO
  have HB := yh hB
  clear hO hB H
  go_wp2_with fail
  go_ret
  exact ⟨_, rfl, uh HO, uh HB⟩
theorem specOf (v : Value) (ws : List DWrite) (w : World) (h : (Lay.sl Lay.tWrite).Reads w [v] ws) (hn : ws.length ≤ 200) (hall : ∀ x ∈ ws, wF x = 0) :
  Calls Tryz.prog 118 #[v] w fun e w' => ∃ v', e = .returned v' ∧ (Lay.sl Lay.tItem).LiesIn w' [v'] (ofI ws) w.heap.size w'.heap.size ∧ Below w.heap.size w w' := by
 obtain ⟨ao, cap, rfl⟩ := open_sl h
 by_cases hp : 0 < ws.length
 ·
  obtain ⟨b, off, rfl, hbl⟩ := Lay.sl_addr h hp
  exact specOf_pos b off cap ws w h hbl hn hall
 obtain rfl : ws = [] := List.eq_nil_of_length_eq_zero (by omega)
 clear h hp hn hall
 have HB := yh ((Below.refl w.heap.size w).alloc (Nat.le_refl _) (.cells #[] 125))
 go_enter Tryz.func118, Tryz.ntmps118
 go_wp2_with fail
 refine wp_loop_rounds 1 ?_
 rw [rounds_succ]
 go_wp2_with fail
 go_ret
 exact ⟨_, rfl, ⟨[], ⟨_, _, rfl, by simp [ofI], Or.inl ⟨rfl, rfl⟩⟩, by simp⟩, uh HB⟩
theorem sl_take_own {α : Type} {A : Lay α} {w : World} {xs : List α} {b off cap n lo hi : Nat} (h : (Lay.sl A).OwnIn w [.slice (some ⟨b, off, none⟩) n cap] xs lo hi) (k : Nat) (hk : k ≤ xs.length) : (Lay.sl A).OwnIn w [.slice (some ⟨b, off, none⟩) k cap] (xs.take k) lo hi := by
 have hl : (xs.take k).length = k := by rw [List.length_take]; omega
 obtain ⟨bl, ⟨⟨ao, cap', he, ⟨h1, h2⟩, hor⟩, hnd, hfz⟩, hr⟩ := h
 simp only [List.cons.injEq, Value.slice.injEq, and_true] at he
 obtain ⟨rfl, rfl, rfl⟩ := he
 rcases hor with ⟨rfl, -⟩ | ⟨b', off', rows, bls, he, hb, rfl, n1, n2, hj⟩
 ·
  obtain rfl : k = 0 := by simpa using hk
  exact ⟨[], ⟨⟨_, _, rfl, ⟨by simp, by simp⟩, Or.inl ⟨rfl, rfl⟩⟩, by simp, by simp⟩, by simp⟩
 simp only [Option.some.injEq, Addr.mk.injEq, and_true] at he
 obtain ⟨rfl, rfl⟩ := he
 have hsub : ∀ c ∈ b :: (bls.take k).flatten, c ∈ b :: bls.flatten := by
  intro c hc
  rcases List.mem_cons.1 hc with rfl | hc
  ·
   simp
  obtain ⟨l, h3, h4⟩ := List.mem_flatten.1 hc
  exact List.mem_cons_of_mem _ (List.mem_flatten.2 ⟨l, List.mem_of_mem_take h3, h4⟩)
 refine ⟨b :: (bls.take k).flatten, ⟨⟨_, _, by rw [hl], ⟨by omega, by omega⟩, Or.inr ⟨b, off, rows.take k, bls.take k, rfl, hb, rfl, by simp [n1], by simp [n2], fun j q1 q2 q3 => ?_⟩⟩, ?_, fun c hc => hfz c (hsub c hc)⟩, fun c hc => hr c (hsub c hc)⟩
 ·
  simp only [List.getElem_take]
  rw [List.length_take] at q1 q2 q3
  exact hj j (by omega) (by omega) (by omega)
 refine List.Nodup.sublist ?_ hnd
 refine List.Sublist.cons_cons _ ?_
 conv => rhs; rw [← List.take_append_drop k bls]
 rw [List.flatten_append]
 exact List.sublist_append_left _ _
theorem sl_take_lies {α : Type} {A : Lay α} {w : World} {xs : List α} {a : Option Addr} {cap n lo hi : Nat} (h : (Lay.sl A).LiesIn w [.slice a n cap] xs lo hi) (k : Nat) (hk : k ≤ xs.length) : (Lay.sl A).LiesIn w [.slice a k cap] (xs.take k) lo hi := by
 have hl : (xs.take k).length = k := by rw [List.length_take]; omega
 obtain ⟨bl, ⟨ao, cap', he, ⟨h1, h2⟩, hor⟩, hr⟩ := h
 simp only [List.cons.injEq, Value.slice.injEq, and_true] at he
 obtain ⟨rfl, rfl, rfl⟩ := he
 rcases hor with ⟨rfl, -⟩ | ⟨b', off', rows, bls, rfl, hb, rfl, n1, n2, hj⟩
 ·
  obtain rfl : k = 0 := by simpa using hk
  exact ⟨[], ⟨_, _, rfl, ⟨by simp, by simp⟩, Or.inl ⟨rfl, rfl⟩⟩, by simp⟩
 refine ⟨b' :: (bls.take k).flatten, ⟨_, _, by rw [hl], ⟨by omega, by omega⟩, Or.inr ⟨b', off', rows.take k, bls.take k, rfl, hb, rfl, by simp [n1], by simp [n2], fun j q1 q2 q3 => ?_⟩⟩, fun c hc => hr c ?_⟩
 ·
  simp only [List.getElem_take]
  rw [List.length_take] at q1 q2 q3
  exact hj j (by omega) (by omega) (by omega)
 rcases List.mem_cons.1 hc with rfl | hc
 ·
  simp
 obtain ⟨l, h3, h4⟩ := List.mem_flatten.1 hc
 exact List.mem_cons_of_mem _ (List.mem_flatten.2 ⟨l, List.mem_of_mem_take h3, h4⟩)
end Go.Proofs.YtoanimpijfijgaaGreat
