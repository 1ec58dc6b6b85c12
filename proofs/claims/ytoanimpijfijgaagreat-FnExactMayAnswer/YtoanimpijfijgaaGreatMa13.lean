/-
  Texts of this proof in one: SpecMsgF, SpecNetF, SpecWF, SpecMay, FloatNat, Clock, ImplClock.
  Their conditions stand in their theorems.
-/
import Derived.Test.YtoanimpijfijgaaGreatChecked
import Derived.Test.YtoanimpijfijgaaGreatMa05
import Derived.Test.YtoanimpijfijgaaGreatMa01
import Derived.Deep.RegionHeld3
import Derived.Deep.CutRange
import Derived.Test.YtoanimpijfijgaaGreatMa00
import Derived.Test.YtoanimpijfijgaaGreatMa12
import Derived.Test.YtoanimpijfijgaaGreatMa09
import Derived.Test.YtoanimpijfijgaaGreatMa10
import Derived.Laws.ComplexArith
set_option maxRecDepth 100000
set_option maxHeartbeats 4000000
namespace Go.Proofs.YtoanimpijfijgaaGreat
open Go.RowKit
abbrev o149x1 : Oper := ⟨some 49, .move (.tmp 0), 160, "l11_net.go:10", #[], none⟩
abbrev o149x2 : Oper := ⟨some 50, .nilCheck (.tmp 49), 0, "l11_net.go:10", #[⟨0, .data⟩], none⟩
abbrev o149x3 : Oper := ⟨some 51, .fieldAddr 89 (.tmp 50) 0, 0, "l11_net.go:10", #[⟨1, .data⟩], none⟩
abbrev o149x4 : Oper := ⟨some 52, .load 2 (.tmp 51), 2, "l11_net.go:10", #[⟨2, .data⟩], none⟩
abbrev o149x5 : Oper := ⟨some 53, .call { callee := .value (.func 64), args := #[.tmp 52, .const (.int .i64 1), .const (.int .i64 2)], argTypes := #[2, 2, 2] }, 4, "l11_net.go:10", #[⟨3, .data⟩], none⟩
abbrev o149x6 : Oper := ⟨some 54, .unOp .not 4 (.tmp 53), 4, "l11_net.go:10", #[⟨4, .data⟩], none⟩
abbrev o149x7 : Oper := ⟨some 55, .move (.tmp 54), 4, "l11_net.go:10", #[⟨5, .data⟩, ⟨4, .chain⟩], none⟩
abbrev o149x8 : Oper := ⟨some 56, .move (.tmp 0), 160, "l11_net.go:10", #[⟨6, .guard⟩], some (6, false)⟩
abbrev o149x9 : Oper := ⟨some 57, .nilCheck (.tmp 56), 0, "l11_net.go:10", #[⟨7, .data⟩, ⟨6, .guard⟩], some (6, false)⟩
abbrev o149x10 : Oper := ⟨some 58, .fieldAddr 89 (.tmp 57) 2, 0, "l11_net.go:10", #[⟨8, .data⟩, ⟨6, .guard⟩], some (6, false)⟩
abbrev o149x11 : Oper := ⟨some 59, .load 2 (.tmp 58), 2, "l11_net.go:10", #[⟨9, .data⟩, ⟨6, .guard⟩], some (6, false)⟩
abbrev o149x12 : Oper := ⟨some 60, .move (.tmp 0), 160, "l11_net.go:10", #[⟨6, .guard⟩], some (6, false)⟩
abbrev o149x13 : Oper := ⟨some 61, .nilCheck (.tmp 60), 0, "l11_net.go:10", #[⟨11, .data⟩, ⟨6, .guard⟩], some (6, false)⟩
abbrev o149x14 : Oper := ⟨some 62, .fieldAddr 89 (.tmp 61) 3, 0, "l11_net.go:10", #[⟨12, .data⟩, ⟨6, .guard⟩], some (6, false)⟩
abbrev o149x15 : Oper := ⟨some 63, .load 2 (.tmp 62), 2, "l11_net.go:10", #[⟨13, .data⟩, ⟨6, .guard⟩], some (6, false)⟩
abbrev o149x16 : Oper := ⟨some 64, .binOp .eql 2 (.tmp 59) (.tmp 63) 2, 4, "l11_net.go:10", #[⟨10, .data⟩, ⟨14, .data⟩, ⟨6, .guard⟩], some (6, false)⟩
abbrev o149x17 : Oper := ⟨some 65, .pick (.tmp 55) (.const (.bool true)) (.tmp 64), 4, "l11_net.go:10", #[⟨6, .data⟩, ⟨15, .data⟩], none⟩
abbrev o149x18 : Oper := ⟨some 66, .move (.tmp 65), 4, "l11_net.go:10", #[⟨16, .data⟩, ⟨6, .chain⟩], none⟩
abbrev o149x19 : Oper := ⟨some 67, .move (.tmp 3), 4, "l11_net.go:10", #[⟨17, .guard⟩], some (17, false)⟩
abbrev o149x20 : Oper := ⟨some 68, .move (.tmp 67), 4, "l11_net.go:10", #[⟨18, .data⟩, ⟨17, .chain⟩, ⟨17, .guard⟩], some (17, false)⟩
abbrev o149x21 : Oper := ⟨some 69, .move (.tmp 4), 4, "l11_net.go:10", #[⟨19, .guard⟩], some (19, true)⟩
abbrev o149x22 : Oper := ⟨some 70, .unOp .not 4 (.tmp 69), 4, "l11_net.go:10", #[⟨20, .data⟩, ⟨19, .guard⟩], some (19, true)⟩
abbrev o149x23 : Oper := ⟨some 71, .pick (.tmp 68) (.tmp 70) (.const (.bool false)), 4, "l11_net.go:10", #[⟨19, .data⟩, ⟨21, .data⟩, ⟨17, .guard⟩], some (17, false)⟩
abbrev o149x24 : Oper := ⟨some 72, .pick (.tmp 66) (.const (.bool true)) (.tmp 71), 4, "l11_net.go:10", #[⟨17, .data⟩, ⟨22, .data⟩], none⟩
def MsgAt (w : World) (b o : Nat) (x : DMsg) (v : Value) : Prop :=
 w.cell? ⟨b, o, none⟩ = some (.int .i64 x.kind) ∧ w.cell? ⟨b, o + 1, none⟩ = some (.int .i64 x.epoch) ∧ w.cell? ⟨b, o + 2, none⟩ = some (.int .i64 x.src) ∧ w.cell? ⟨b, o + 3, none⟩ = some (.int .i64 x.dst) ∧ w.cell? ⟨b, o + 4, none⟩ = some (.int .i64 x.index) ∧ w.cell? ⟨b, o + 5, none⟩ = some (.int .i64 x.write.kind) ∧ w.cell? ⟨b, o + 5 + 1, none⟩ = some (.int .i64 x.write.id) ∧ w.cell? ⟨b, o + 5 + 2, none⟩ = some (v) ∧ w.cell? ⟨b, o + 5 + 3, none⟩ = some (.int .i64 x.write.session) ∧ w.cell? ⟨b, o + 5 + 4, none⟩ = some (.int .i64 x.write.seq)
theorem MsgAt.later {w w' : World} {b o : Nat} {x : DMsg} {v : Value} (h : MsgAt w b o x v) (hb : Below w.heap.size w w') : MsgAt w' b o x v := by
 obtain ⟨c0, c1, c2, c3, c4, c5, c6, c7, c8, c9⟩ := h
 have hl := World.block_lt_of_cell? _ _ c0
 exact ⟨(hb.cell (p := ⟨b, o, none⟩) hl).trans c0, (hb.cell (p := ⟨b, o + 1, none⟩) hl).trans c1, (hb.cell (p := ⟨b, o + 2, none⟩) hl).trans c2, (hb.cell (p := ⟨b, o + 3, none⟩) hl).trans c3, (hb.cell (p := ⟨b, o + 4, none⟩) hl).trans c4, (hb.cell (p := ⟨b, o + 5, none⟩) hl).trans c5, (hb.cell (p := ⟨b, o + 5 + 1, none⟩) hl).trans c6, (hb.cell (p := ⟨b, o + 5 + 2, none⟩) hl).trans c7, (hb.cell (p := ⟨b, o + 5 + 3, none⟩) hl).trans c8, (hb.cell (p := ⟨b, o + 5 + 4, none⟩) hl).trans c9⟩
theorem noW_f0 {y : DWrite} (h : (y.kind == 0) = false) : decide (noW y) = false := by
 rw [decide_eq_false_iff_not]; intro q; rw [q.1] at h; simp at h
theorem noW_f1 {y : DWrite} (h : (y.id == 0) = false) : decide (noW y) = false := by
 rw [decide_eq_false_iff_not]; intro q; rw [q.2.1] at h; simp at h
theorem noW_f2 {y : DWrite} (h : (y.session == 0) = false) : decide (noW y) = false := by
 rw [decide_eq_false_iff_not]; intro q; rw [q.2.2.1] at h; simp at h
theorem noW_f3 {y : DWrite} (h : (y.seq == 0) = false) : decide (noW y) = false := by
 rw [decide_eq_false_iff_not]; intro q; rw [q.2.2.2.1] at h; simp at h
theorem noW_f4 {y : DWrite} (h : ((y.vec.length : Int) == 0) = false) : decide (noW y) = false := by
 rw [decide_eq_false_iff_not]; intro q; rw [q.2.2.2.2] at h; simp at h
theorem noW_t {y : DWrite} (h0 : (y.kind == 0) = true) (h1 : (y.id == 0) = true) (h2 : (y.session == 0) = true) (h3 : (y.seq == 0) = true) (h4 : ((y.vec.length : Int) == 0) = true) : decide (noW y) = true := by
 rw [decide_eq_true_iff]
 simp only [beq_iff_eq] at h0 h1 h2 h3 h4
 exact ⟨h0, h1, h2, h3, by omega⟩
theorem mf_kind {x : DMsg} (h : (decide (1 ≤ x.kind) && decide (x.kind ≤ 2)) = false) : msgFault x = 1 := by
 rw [msgFault, if_pos (Or.inl (by simpa using h))]
theorem mf_self {x : DMsg} (h : (x.src == x.dst) = true) : msgFault x = 1 := by
 rw [msgFault, if_pos (Or.inr (Or.inl (beq_iff_eq.1 h)))]
theorem mf_ack {x : DMsg} (h : (x.kind == 2) = true) (h2 : decide (noW x.write) = false) : msgFault x = 1 := by
 rw [msgFault, if_pos (Or.inr (Or.inr ⟨beq_iff_eq.1 h, decide_eq_false_iff_not.1 h2⟩))]
def mfRest (x : DMsg) : Int := if ¬ (1 ≤ x.epoch ∧ x.epoch ≤ 999) ∨ ¬ (1 ≤ x.src ∧ x.src ≤ 5) ∨ ¬ (1 ≤ x.dst ∧ x.dst ≤ 5) ∨ ¬ (0 ≤ x.index ∧ x.index ≤ 40) ∨ (x.kind ≠ 2 ∧ x.index = 0) then 3
 else if x.kind = 2 then 0 else wF x.write
theorem mf_rest1 {x : DMsg} (h : (decide (1 ≤ x.kind) && decide (x.kind ≤ 2)) = true) (h1 : (x.src == x.dst) = false) (h2 : (x.kind == 2) = false) : msgFault x = mfRest x := by
 rw [msgFault, if_neg, mfRest]
 simp at h h1 h2
 rintro (q | q | q)
 ·
  exact q h
 ·
  exact h1 q
 exact h2 q.1
theorem mf_rest2 {x : DMsg} (h : (decide (1 ≤ x.kind) && decide (x.kind ≤ 2)) = true) (h1 : (x.src == x.dst) = false) (h2 : decide (noW x.write) = true) : msgFault x = mfRest x := by
 rw [msgFault, if_neg, mfRest]
 simp at h h1 h2
 rintro (q | q | q)
 ·
  exact q h
 ·
  exact h1 q
 exact q.2 h2
theorem mr_epoch {x : DMsg} (h : (decide (1 ≤ x.epoch) && decide (x.epoch ≤ 999)) = false) : mfRest x = 3 := by
 rw [mfRest, if_pos (Or.inl (by simpa using h))]
theorem mr_src {x : DMsg} (h : (decide (1 ≤ x.src) && decide (x.src ≤ 5)) = false) : mfRest x = 3 := by
 rw [mfRest, if_pos (Or.inr (Or.inl (by simpa using h)))]
theorem mr_dst {x : DMsg} (h : (decide (1 ≤ x.dst) && decide (x.dst ≤ 5)) = false) : mfRest x = 3 := by
 rw [mfRest, if_pos (Or.inr (Or.inr (Or.inl (by simpa using h))))]
theorem mr_index {x : DMsg} (h : (decide (0 ≤ x.index) && decide (x.index ≤ 40)) = false) : mfRest x = 3 := by
 rw [mfRest, if_pos (Or.inr (Or.inr (Or.inr (Or.inl (by simpa using h)))))]
theorem mr_zero {x : DMsg} (h : (x.kind == 2) = false) (h2 : (x.index == 0) = true) : mfRest x = 3 := by
 rw [mfRest, if_pos (Or.inr (Or.inr (Or.inr (Or.inr ⟨by simpa using h, by simpa using h2⟩))))]
theorem mr_ok {x : DMsg} (h0 : (decide (1 ≤ x.epoch) && decide (x.epoch ≤ 999)) = true) (h1 : (decide (1 ≤ x.src) && decide (x.src ≤ 5)) = true) (h2 : (decide (1 ≤ x.dst) && decide (x.dst ≤ 5)) = true) (h3 : (decide (0 ≤ x.index) && decide (x.index ≤ 40)) = true) (h4 : (x.kind == 2) = true ∨ (x.index == 0) = false) : mfRest x = if x.kind = 2 then 0 else wF x.write := by
 rw [mfRest, if_neg]
 simp at h0 h1 h2 h3 h4
 rintro (q | q | q | q | q)
 ·
  exact q h0
 ·
  exact q h1
 ·
  exact q h2
 ·
  exact q h3
 rcases h4 with h4 | h4
 ·
  exact q.1 h4
 exact h4 q.2
theorem write_vec {w : World} {y : DWrite} {a : Option Addr} {d : Nat} (h : Lay.tWrite.Reads w [.int .i64 y.kind, .int .i64 y.id, .slice a y.vec.length d, .int .i64 y.session, .int .i64 y.seq] y) : (Lay.sl Lay.int).Reads w [.slice a y.vec.length d] y.vec := by
 obtain ⟨a2, d2, e, R⟩ := open_Write h
 simp only [List.cons.injEq, Value.slice.injEq, and_true, true_and] at e
 obtain ⟨rfl, rfl⟩ := e
 exact R
theorem l11MsgC (b o : Nat) (a : Option Addr) (d : Nat) (x : DMsg) (w : World) (hM : MsgAt w b o x (.slice a x.write.vec.length d)) (R : (Lay.sl Lay.int).Reads w [.slice a x.write.vec.length d] x.write.vec) :
  Calls Tryz.prog 244 #[.pointer (some ⟨b, o, none⟩)] w fun e w' => e = .returned (.int .i64 (msgFault x)) ∧ Below w.heap.size w w' := by
 have hbig := R.big
 have H := yh R
 have HM := yh hM
 obtain ⟨c0, c1, c2, c3, c4, c5, c6, c7, c8, c9⟩ := hM
 have hb := World.block_lt_of_cell? _ _ c0
 clear R
 go_enter Tryz.func244, Tryz.ntmps244
 go_upto_region 2 with fail
 go_cut [4] from 10 to 48 (fun s4 wx => s4 = .bool (decide (noW x.write)) ∧ wx = w)
 case first =>
  cases e0 : (x.write.kind == 0)
  ·
   have HF := yh (noW_f0 e0)
   go_wp2_with fail
   go_meet
   exact ⟨by rw [uh HF], rfl⟩
  cases e1 : (x.write.id == 0)
  ·
   have HF := yh (noW_f1 e1)
   go_wp2_with fail
   go_meet
   exact ⟨by rw [uh HF], rfl⟩
  cases e2 : (x.write.session == 0)
  ·
   have HF := yh (noW_f2 e2)
   go_wp2_with fail
   go_meet
   exact ⟨by rw [uh HF], rfl⟩
  cases e3 : (x.write.seq == 0)
  ·
   have HF := yh (noW_f3 e3)
   go_wp2_with fail
   go_meet
   exact ⟨by rw [uh HF], rfl⟩
  cases e4 : ((x.write.vec.length : Int) == 0)
  ·
   have HF := yh (noW_f4 e4)
   go_wp2_with fail
   go_meet
   exact ⟨by rw [uh HF], rfl⟩
  have HF := yh (noW_t e0 e1 e2 e3 e4)
  go_wp2_with fail
  go_meet
  exact ⟨by rw [uh HF], rfl⟩
 case rest =>
  obtain ⟨rfl, hwc⟩ := hcut
  subst hwc
  cases d1 : (decide (1 ≤ x.kind) && decide (x.kind ≤ 2))
  ·
   have HF := yh (mf_kind d1)
   go_upto_region 3 with fail
   refine wp_region_noPanic ?_
   refine wp_region_held_drew (S := fun w' => Below wc.heap.size wc w') (by kernel_rfl) (Below.refl _ _).drew (fun zq => ?_)
   generalize wc.drew = wD at zq ⊢
   refine tkH (i := 0) (oi := o149x1) (v := ?va0_1) rfl ?ha0_1 zq ?ra0_1
   case ha0_1 => intro _ _; go_simp; try with_reducible rfl
   refine tkH (i := 1) (oi := o149x2) (v := ?va1_2) rfl ?ha1_2 zq ?ra1_2
   case ha1_2 => intro _ _; go_simp; try with_reducible rfl
   refine tkH (i := 2) (oi := o149x3) (v := ?va2_3) rfl ?ha2_3 zq ?ra2_3
   case ha2_3 => intro _ _; go_simp; try with_reducible rfl
   refine tkH (i := 3) (oi := o149x4) (v := ?va3_4) rfl ?ha3_4 zq ?ra3_4
   case ha3_4 =>
    intro wS hSw
    have q0 := (hSw.cell (p := ⟨b, o, none⟩) hb).trans c0
    clear hSw
    (try dsimp only at hSw)
    go_simp
    try with_reducible rfl
   refine rdH (i := 4) (oi := o149x5) rfl (fun K hK => ?_)
   go_simp
   go_at_call 64
   refine (inC x.kind 1 2 _).mono ?_
   rintro e w1 ⟨rfl, h1⟩
   subst w1
   rw [d1]
   try go_wp2_with fail
   refine hK.out _ _ zq (fun zq => ?_)
   clear hK K
   try simp only [Act.put, pz, py, px]
   refine tkH (i := 5) (oi := o149x6) (v := ?va5_5) rfl ?ha5_5 zq ?ra5_5
   case ha5_5 => intro _ _; go_simp; try with_reducible rfl
   refine tkH (i := 6) (oi := o149x7) (v := ?va6_6) rfl ?ha6_6 zq ?ra6_6
   case ha6_6 => intro _ _; go_simp; try with_reducible rfl
   refine skH (i := 7) (oi := o149x8) rfl zq ?_
   refine skH (i := 8) (oi := o149x9) rfl zq ?_
   refine skH (i := 9) (oi := o149x10) rfl zq ?_
   refine skH (i := 10) (oi := o149x11) rfl zq ?_
   refine skH (i := 11) (oi := o149x12) rfl zq ?_
   refine skH (i := 12) (oi := o149x13) rfl zq ?_
   refine skH (i := 13) (oi := o149x14) rfl zq ?_
   refine skH (i := 14) (oi := o149x15) rfl zq ?_
   refine skH (i := 15) (oi := o149x16) rfl zq ?_
   refine tkH (i := 16) (oi := o149x17) (v := ?va16_16) rfl ?ha16_16 zq ?ra16_16
   case ha16_16 => intro _ _; go_simp; try with_reducible rfl
   refine tkH (i := 17) (oi := o149x18) (v := ?va17_17) rfl ?ha17_17 zq ?ra17_17
   case ha17_17 => intro _ _; go_simp; try with_reducible rfl
   refine skH (i := 18) (oi := o149x19) rfl zq ?_
   refine skH (i := 19) (oi := o149x20) rfl zq ?_
   refine skH (i := 20) (oi := o149x21) rfl zq ?_
   refine skH (i := 21) (oi := o149x22) rfl zq ?_
   refine skH (i := 22) (oi := o149x23) rfl zq ?_
   refine tkH (i := 23) (oi := o149x24) (v := ?va23_23) rfl ?ha23_23 zq ?ra23_23
   case ha23_23 => intro _ _; go_simp; try with_reducible rfl
   refine wpAnyH_done (by kernel_rfl) ?_ _
   refine NoPanic.normal ?_
   have HB9 := yh zq
   clear zq
   go_wp2_with fail
   go_ret
   exact ⟨by rw [uh HF]; rfl, uh HB9⟩
  cases e1 : (x.src == x.dst)
  ·
   cases e2 : (x.kind == 2)
   ·
    have HRS := yh (mf_rest1 d1 e1 e2)
    go_upto_region 3 with fail
    refine wp_region_noPanic ?_
    refine wp_region_held_drew (S := fun w' => Below wc.heap.size wc w') (by kernel_rfl) (Below.refl _ _).drew (fun zq => ?_)
    generalize wc.drew = wD at zq ⊢
    refine tkH (i := 0) (oi := o149x1) (v := ?vc0_1) rfl ?hc0_1 zq ?rc0_1
    case hc0_1 => intro _ _; go_simp; try with_reducible rfl
    refine tkH (i := 1) (oi := o149x2) (v := ?vc1_2) rfl ?hc1_2 zq ?rc1_2
    case hc1_2 => intro _ _; go_simp; try with_reducible rfl
    refine tkH (i := 2) (oi := o149x3) (v := ?vc2_3) rfl ?hc2_3 zq ?rc2_3
    case hc2_3 => intro _ _; go_simp; try with_reducible rfl
    refine tkH (i := 3) (oi := o149x4) (v := ?vc3_4) rfl ?hc3_4 zq ?rc3_4
    case hc3_4 =>
     intro wS hSw
     have q0 := (hSw.cell (p := ⟨b, o, none⟩) hb).trans c0
     clear hSw
     (try dsimp only at hSw)
     go_simp
     try with_reducible rfl
    refine rdH (i := 4) (oi := o149x5) rfl (fun K hK => ?_)
    go_simp
    go_at_call 64
    refine (inC x.kind 1 2 _).mono ?_
    rintro e w1 ⟨rfl, h1⟩
    subst w1
    rw [d1]
    try go_wp2_with fail
    refine hK.out _ _ zq (fun zq => ?_)
    clear hK K
    try simp only [Act.put, pz, py, px]
    refine tkH (i := 5) (oi := o149x6) (v := ?vc5_5) rfl ?hc5_5 zq ?rc5_5
    case hc5_5 => intro _ _; go_simp; try with_reducible rfl
    refine tkH (i := 6) (oi := o149x7) (v := ?vc6_6) rfl ?hc6_6 zq ?rc6_6
    case hc6_6 => intro _ _; go_simp; try with_reducible rfl
    refine tkH (i := 7) (oi := o149x8) (v := ?vc7_7) rfl ?hc7_7 zq ?rc7_7
    case hc7_7 => intro _ _; go_simp; try with_reducible rfl
    refine tkH (i := 8) (oi := o149x9) (v := ?vc8_8) rfl ?hc8_8 zq ?rc8_8
    case hc8_8 => intro _ _; go_simp; try with_reducible rfl
    refine tkH (i := 9) (oi := o149x10) (v := ?vc9_9) rfl ?hc9_9 zq ?rc9_9
    case hc9_9 => intro _ _; go_simp; try with_reducible rfl
    refine tkH (i := 10) (oi := o149x11) (v := ?vc10_10) rfl ?hc10_10 zq ?rc10_10
    case hc10_10 =>
     intro wS hSw
     have q2 := (hSw.cell (p := ⟨b, o + 2, none⟩) hb).trans c2
     clear hSw
     (try dsimp only at hSw)
     go_simp
     try with_reducible rfl
    refine tkH (i := 11) (oi := o149x12) (v := ?vc11_11) rfl ?hc11_11 zq ?rc11_11
    case hc11_11 => intro _ _; go_simp; try with_reducible rfl
    refine tkH (i := 12) (oi := o149x13) (v := ?vc12_12) rfl ?hc12_12 zq ?rc12_12
    case hc12_12 => intro _ _; go_simp; try with_reducible rfl
    refine tkH (i := 13) (oi := o149x14) (v := ?vc13_13) rfl ?hc13_13 zq ?rc13_13
    case hc13_13 => intro _ _; go_simp; try with_reducible rfl
    refine tkH (i := 14) (oi := o149x15) (v := ?vc14_14) rfl ?hc14_14 zq ?rc14_14
    case hc14_14 =>
     intro wS hSw
     have q3 := (hSw.cell (p := ⟨b, o + 3, none⟩) hb).trans c3
     clear hSw
     (try dsimp only at hSw)
     go_simp
     try with_reducible rfl
    refine tkH (i := 15) (oi := o149x16) (v := ?vc15_15) rfl ?hc15_15 zq ?rc15_15
    case hc15_15 => intro _ _; go_simp; try with_reducible rfl
    refine tkH (i := 16) (oi := o149x17) (v := ?vc16_16) rfl ?hc16_16 zq ?rc16_16
    case hc16_16 => intro _ _; go_simp; try with_reducible rfl
    refine tkH (i := 17) (oi := o149x18) (v := ?vc17_17) rfl ?hc17_17 zq ?rc17_17
    case hc17_17 => intro _ _; go_simp; try with_reducible rfl
    refine tkH (i := 18) (oi := o149x19) (v := ?vc18_18) rfl ?hc18_18 zq ?rc18_18
    case hc18_18 => intro _ _; go_simp; try with_reducible rfl
    refine tkH (i := 19) (oi := o149x20) (v := ?vc19_19) rfl ?hc19_19 zq ?rc19_19
    case hc19_19 => intro _ _; go_simp; try with_reducible rfl
    refine skH (i := 20) (oi := o149x21) rfl zq ?_
    refine skH (i := 21) (oi := o149x22) rfl zq ?_
    refine tkH (i := 22) (oi := o149x23) (v := ?vc22_22) rfl ?hc22_22 zq ?rc22_22
    case hc22_22 => intro _ _; go_simp; try with_reducible rfl
    refine tkH (i := 23) (oi := o149x24) (v := ?vc23_23) rfl ?hc23_23 zq ?rc23_23
    case hc23_23 => intro _ _; go_simp; try with_reducible rfl
    refine wpAnyH_done (by kernel_rfl) ?_ _
    refine NoPanic.normal ?_
    have HB9 := zq
    clear zq
    have c0 : wD.cell? ⟨b, o, none⟩ = some (.int .i64 x.kind) := (HB9.cell (p := ⟨b, o, none⟩) hb).trans c0
    have c1 : wD.cell? ⟨b, o + 1, none⟩ = some (.int .i64 x.epoch) := (HB9.cell (p := ⟨b, o + 1, none⟩) hb).trans c1
    have c2 : wD.cell? ⟨b, o + 2, none⟩ = some (.int .i64 x.src) := (HB9.cell (p := ⟨b, o + 2, none⟩) hb).trans c2
    have c3 : wD.cell? ⟨b, o + 3, none⟩ = some (.int .i64 x.dst) := (HB9.cell (p := ⟨b, o + 3, none⟩) hb).trans c3
    have c4 : wD.cell? ⟨b, o + 4, none⟩ = some (.int .i64 x.index) := (HB9.cell (p := ⟨b, o + 4, none⟩) hb).trans c4
    have c5 : wD.cell? ⟨b, o + 5, none⟩ = some (.int .i64 x.write.kind) := (HB9.cell (p := ⟨b, o + 5, none⟩) hb).trans c5
    have c6 : wD.cell? ⟨b, o + 5 + 1, none⟩ = some (.int .i64 x.write.id) := (HB9.cell (p := ⟨b, o + 5 + 1, none⟩) hb).trans c6
    have c7 : wD.cell? ⟨b, o + 5 + 2, none⟩ = some (.slice a x.write.vec.length d) := (HB9.cell (p := ⟨b, o + 5 + 2, none⟩) hb).trans c7
    have c8 : wD.cell? ⟨b, o + 5 + 3, none⟩ = some (.int .i64 x.write.session) := (HB9.cell (p := ⟨b, o + 5 + 3, none⟩) hb).trans c8
    have c9 : wD.cell? ⟨b, o + 5 + 4, none⟩ = some (.int .i64 x.write.seq) := (HB9.cell (p := ⟨b, o + 5 + 4, none⟩) hb).trans c9
    have HWD := yh ((uh H).later HB9)
    replace hb : b < wD.heap.size := Nat.lt_of_lt_of_le hb HB9.size
    replace HB9 := yh HB9
    go_wp2_with fail
    refine (inC x.epoch 1 999 wD).mono ?_
    rintro e w1 ⟨rfl, h1⟩
    subst w1
    cases d10 : (decide (1 ≤ x.epoch) && decide (x.epoch ≤ 999))
    ·
     have HF := yh ((uh HRS).trans (mr_epoch d10))
     clear d10
     go_wp2_with fail
     go_ret
     exact ⟨by rw [uh HF]; rfl, uh HB9⟩
    skip
    go_wp2_with fail
    refine (node10C x.src wD).mono ?_
    rintro e w1 ⟨rfl, h1⟩
    subst w1
    cases d12 : (decide (1 ≤ x.src) && decide (x.src ≤ 5))
    ·
     have HF := yh ((uh HRS).trans (mr_src d12))
     clear d12
     go_wp2_with fail
     go_ret
     exact ⟨by rw [uh HF]; rfl, uh HB9⟩
    skip
    go_wp2_with fail
    refine (node10C x.dst wD).mono ?_
    rintro e w1 ⟨rfl, h1⟩
    subst w1
    cases d14 : (decide (1 ≤ x.dst) && decide (x.dst ≤ 5))
    ·
     have HF := yh ((uh HRS).trans (mr_dst d14))
     clear d14
     go_wp2_with fail
     go_ret
     exact ⟨by rw [uh HF]; rfl, uh HB9⟩
    skip
    go_wp2_with fail
    refine (inC x.index 0 40 wD).mono ?_
    rintro e w1 ⟨rfl, h1⟩
    subst w1
    cases d16 : (decide (0 ≤ x.index) && decide (x.index ≤ 40))
    ·
     have HF := yh ((uh HRS).trans (mr_index d16))
     clear d16
     go_wp2_with fail
     go_ret
     exact ⟨by rw [uh HF]; rfl, uh HB9⟩
    skip
    cases e5 : (x.index == 0)
    ·
     have HF : Hid (msgFault x = wF x.write) := (uh HRS).trans ((mr_ok d10 d12 d14 d16 (Or.inr e5)).trans (if_neg (by simpa using e2)))
     clear d10 d12 d14 d16
     go_wp2_with fail
     refine (l3FaultO b (o + 5) x.write.kind x.write.id _ x.write.session x.write.seq x.write.vec wD ⟨c5, c6, c7, c8, c9⟩ (Lay.ints_reads (uh HWD))).mono ?_
     rintro e w1 ⟨rfl, h1⟩
     subst w1
     go_wp2_with fail
     go_ret
     exact ⟨by rw [uh HF]; rfl, uh HB9⟩
    have HF : Hid (msgFault x = 3) := (uh HRS).trans (mr_zero e2 e5)
    clear d10 d12 d14 d16
    go_wp2_with fail
    go_ret
    exact ⟨by rw [uh HF]; rfl, uh HB9⟩
   cases e3 : decide (noW x.write)
   ·
    have HF := yh (mf_ack e2 e3)
    go_upto_region 3 with fail
    refine wp_region_noPanic ?_
    refine wp_region_held_drew (S := fun w' => Below wc.heap.size wc w') (by kernel_rfl) (Below.refl _ _).drew (fun zq => ?_)
    generalize wc.drew = wD at zq ⊢
    refine tkH (i := 0) (oi := o149x1) (v := ?vd0_1) rfl ?hd0_1 zq ?rd0_1
    case hd0_1 => intro _ _; go_simp; try with_reducible rfl
    refine tkH (i := 1) (oi := o149x2) (v := ?vd1_2) rfl ?hd1_2 zq ?rd1_2
    case hd1_2 => intro _ _; go_simp; try with_reducible rfl
    refine tkH (i := 2) (oi := o149x3) (v := ?vd2_3) rfl ?hd2_3 zq ?rd2_3
    case hd2_3 => intro _ _; go_simp; try with_reducible rfl
    refine tkH (i := 3) (oi := o149x4) (v := ?vd3_4) rfl ?hd3_4 zq ?rd3_4
    case hd3_4 =>
     intro wS hSw
     have q0 := (hSw.cell (p := ⟨b, o, none⟩) hb).trans c0
     clear hSw
     (try dsimp only at hSw)
     go_simp
     try with_reducible rfl
    refine rdH (i := 4) (oi := o149x5) rfl (fun K hK => ?_)
    go_simp
    go_at_call 64
    refine (inC x.kind 1 2 _).mono ?_
    rintro e w1 ⟨rfl, h1⟩
    subst w1
    rw [d1]
    try go_wp2_with fail
    refine hK.out _ _ zq (fun zq => ?_)
    clear hK K
    try simp only [Act.put, pz, py, px]
    refine tkH (i := 5) (oi := o149x6) (v := ?vd5_5) rfl ?hd5_5 zq ?rd5_5
    case hd5_5 => intro _ _; go_simp; try with_reducible rfl
    refine tkH (i := 6) (oi := o149x7) (v := ?vd6_6) rfl ?hd6_6 zq ?rd6_6
    case hd6_6 => intro _ _; go_simp; try with_reducible rfl
    refine tkH (i := 7) (oi := o149x8) (v := ?vd7_7) rfl ?hd7_7 zq ?rd7_7
    case hd7_7 => intro _ _; go_simp; try with_reducible rfl
    refine tkH (i := 8) (oi := o149x9) (v := ?vd8_8) rfl ?hd8_8 zq ?rd8_8
    case hd8_8 => intro _ _; go_simp; try with_reducible rfl
    refine tkH (i := 9) (oi := o149x10) (v := ?vd9_9) rfl ?hd9_9 zq ?rd9_9
    case hd9_9 => intro _ _; go_simp; try with_reducible rfl
    refine tkH (i := 10) (oi := o149x11) (v := ?vd10_10) rfl ?hd10_10 zq ?rd10_10
    case hd10_10 =>
     intro wS hSw
     have q2 := (hSw.cell (p := ⟨b, o + 2, none⟩) hb).trans c2
     clear hSw
     (try dsimp only at hSw)
     go_simp
     try with_reducible rfl
    refine tkH (i := 11) (oi := o149x12) (v := ?vd11_11) rfl ?hd11_11 zq ?rd11_11
    case hd11_11 => intro _ _; go_simp; try with_reducible rfl
    refine tkH (i := 12) (oi := o149x13) (v := ?vd12_12) rfl ?hd12_12 zq ?rd12_12
    case hd12_12 => intro _ _; go_simp; try with_reducible rfl
    refine tkH (i := 13) (oi := o149x14) (v := ?vd13_13) rfl ?hd13_13 zq ?rd13_13
    case hd13_13 => intro _ _; go_simp; try with_reducible rfl
    refine tkH (i := 14) (oi := o149x15) (v := ?vd14_14) rfl ?hd14_14 zq ?rd14_14
    case hd14_14 =>
     intro wS hSw
     have q3 := (hSw.cell (p := ⟨b, o + 3, none⟩) hb).trans c3
     clear hSw
     (try dsimp only at hSw)
     go_simp
     try with_reducible rfl
    refine tkH (i := 15) (oi := o149x16) (v := ?vd15_15) rfl ?hd15_15 zq ?rd15_15
    case hd15_15 => intro _ _; go_simp; try with_reducible rfl
    refine tkH (i := 16) (oi := o149x17) (v := ?vd16_16) rfl ?hd16_16 zq ?rd16_16
    case hd16_16 => intro _ _; go_simp; try with_reducible rfl
    refine tkH (i := 17) (oi := o149x18) (v := ?vd17_17) rfl ?hd17_17 zq ?rd17_17
    case hd17_17 => intro _ _; go_simp; try with_reducible rfl
    refine tkH (i := 18) (oi := o149x19) (v := ?vd18_18) rfl ?hd18_18 zq ?rd18_18
    case hd18_18 => intro _ _; go_simp; try with_reducible rfl
    refine tkH (i := 19) (oi := o149x20) (v := ?vd19_19) rfl ?hd19_19 zq ?rd19_19
    case hd19_19 => intro _ _; go_simp; try with_reducible rfl
    refine tkH (i := 20) (oi := o149x21) (v := ?vd20_20) rfl ?hd20_20 zq ?rd20_20
    case hd20_20 => intro _ _; go_simp; try with_reducible rfl
    refine tkH (i := 21) (oi := o149x22) (v := ?vd21_21) rfl ?hd21_21 zq ?rd21_21
    case hd21_21 => intro _ _; go_simp; try with_reducible rfl
    refine tkH (i := 22) (oi := o149x23) (v := ?vd22_22) rfl ?hd22_22 zq ?rd22_22
    case hd22_22 => intro _ _; go_simp; try with_reducible rfl
    refine tkH (i := 23) (oi := o149x24) (v := ?vd23_23) rfl ?hd23_23 zq ?rd23_23
    case hd23_23 => intro _ _; go_simp; try with_reducible rfl
    refine wpAnyH_done (by kernel_rfl) ?_ _
    refine NoPanic.normal ?_
    have HB9 := yh zq
    clear zq
    go_wp2_with fail
    go_ret
    exact ⟨by rw [uh HF]; rfl, uh HB9⟩
   have HRS := yh (mf_rest2 d1 e1 e3)
   go_upto_region 3 with fail
   refine wp_region_noPanic ?_
   refine wp_region_held_drew (S := fun w' => Below wc.heap.size wc w') (by kernel_rfl) (Below.refl _ _).drew (fun zq => ?_)
   generalize wc.drew = wD at zq ⊢
   refine tkH (i := 0) (oi := o149x1) (v := ?ve0_1) rfl ?he0_1 zq ?re0_1
   case he0_1 => intro _ _; go_simp; try with_reducible rfl
   refine tkH (i := 1) (oi := o149x2) (v := ?ve1_2) rfl ?he1_2 zq ?re1_2
   case he1_2 => intro _ _; go_simp; try with_reducible rfl
   refine tkH (i := 2) (oi := o149x3) (v := ?ve2_3) rfl ?he2_3 zq ?re2_3
   case he2_3 => intro _ _; go_simp; try with_reducible rfl
   refine tkH (i := 3) (oi := o149x4) (v := ?ve3_4) rfl ?he3_4 zq ?re3_4
   case he3_4 =>
    intro wS hSw
    have q0 := (hSw.cell (p := ⟨b, o, none⟩) hb).trans c0
    clear hSw
    (try dsimp only at hSw)
    go_simp
    try with_reducible rfl
   refine rdH (i := 4) (oi := o149x5) rfl (fun K hK => ?_)
   go_simp
   go_at_call 64
   refine (inC x.kind 1 2 _).mono ?_
   rintro e w1 ⟨rfl, h1⟩
   subst w1
   rw [d1]
   try go_wp2_with fail
   refine hK.out _ _ zq (fun zq => ?_)
   clear hK K
   try simp only [Act.put, pz, py, px]
   refine tkH (i := 5) (oi := o149x6) (v := ?ve5_5) rfl ?he5_5 zq ?re5_5
   case he5_5 => intro _ _; go_simp; try with_reducible rfl
   refine tkH (i := 6) (oi := o149x7) (v := ?ve6_6) rfl ?he6_6 zq ?re6_6
   case he6_6 => intro _ _; go_simp; try with_reducible rfl
   refine tkH (i := 7) (oi := o149x8) (v := ?ve7_7) rfl ?he7_7 zq ?re7_7
   case he7_7 => intro _ _; go_simp; try with_reducible rfl
   refine tkH (i := 8) (oi := o149x9) (v := ?ve8_8) rfl ?he8_8 zq ?re8_8
   case he8_8 => intro _ _; go_simp; try with_reducible rfl
   refine tkH (i := 9) (oi := o149x10) (v := ?ve9_9) rfl ?he9_9 zq ?re9_9
   case he9_9 => intro _ _; go_simp; try with_reducible rfl
   refine tkH (i := 10) (oi := o149x11) (v := ?ve10_10) rfl ?he10_10 zq ?re10_10
   case he10_10 =>
    intro wS hSw
    have q2 := (hSw.cell (p := ⟨b, o + 2, none⟩) hb).trans c2
    clear hSw
    (try dsimp only at hSw)
    go_simp
    try with_reducible rfl
   refine tkH (i := 11) (oi := o149x12) (v := ?ve11_11) rfl ?he11_11 zq ?re11_11
   case he11_11 => intro _ _; go_simp; try with_reducible rfl
   refine tkH (i := 12) (oi := o149x13) (v := ?ve12_12) rfl ?he12_12 zq ?re12_12
   case he12_12 => intro _ _; go_simp; try with_reducible rfl
   refine tkH (i := 13) (oi := o149x14) (v := ?ve13_13) rfl ?he13_13 zq ?re13_13
   case he13_13 => intro _ _; go_simp; try with_reducible rfl
   refine tkH (i := 14) (oi := o149x15) (v := ?ve14_14) rfl ?he14_14 zq ?re14_14
   case he14_14 =>
    intro wS hSw
    have q3 := (hSw.cell (p := ⟨b, o + 3, none⟩) hb).trans c3
    clear hSw
    (try dsimp only at hSw)
    go_simp
    try with_reducible rfl
   refine tkH (i := 15) (oi := o149x16) (v := ?ve15_15) rfl ?he15_15 zq ?re15_15
   case he15_15 => intro _ _; go_simp; try with_reducible rfl
   refine tkH (i := 16) (oi := o149x17) (v := ?ve16_16) rfl ?he16_16 zq ?re16_16
   case he16_16 => intro _ _; go_simp; try with_reducible rfl
   refine tkH (i := 17) (oi := o149x18) (v := ?ve17_17) rfl ?he17_17 zq ?re17_17
   case he17_17 => intro _ _; go_simp; try with_reducible rfl
   refine tkH (i := 18) (oi := o149x19) (v := ?ve18_18) rfl ?he18_18 zq ?re18_18
   case he18_18 => intro _ _; go_simp; try with_reducible rfl
   refine tkH (i := 19) (oi := o149x20) (v := ?ve19_19) rfl ?he19_19 zq ?re19_19
   case he19_19 => intro _ _; go_simp; try with_reducible rfl
   refine tkH (i := 20) (oi := o149x21) (v := ?ve20_20) rfl ?he20_20 zq ?re20_20
   case he20_20 => intro _ _; go_simp; try with_reducible rfl
   refine tkH (i := 21) (oi := o149x22) (v := ?ve21_21) rfl ?he21_21 zq ?re21_21
   case he21_21 => intro _ _; go_simp; try with_reducible rfl
   refine tkH (i := 22) (oi := o149x23) (v := ?ve22_22) rfl ?he22_22 zq ?re22_22
   case he22_22 => intro _ _; go_simp; try with_reducible rfl
   refine tkH (i := 23) (oi := o149x24) (v := ?ve23_23) rfl ?he23_23 zq ?re23_23
   case he23_23 => intro _ _; go_simp; try with_reducible rfl
   refine wpAnyH_done (by kernel_rfl) ?_ _
   refine NoPanic.normal ?_
   have HB9 := zq
   clear zq
   have c0 : wD.cell? ⟨b, o, none⟩ = some (.int .i64 x.kind) := (HB9.cell (p := ⟨b, o, none⟩) hb).trans c0
   have c1 : wD.cell? ⟨b, o + 1, none⟩ = some (.int .i64 x.epoch) := (HB9.cell (p := ⟨b, o + 1, none⟩) hb).trans c1
   have c2 : wD.cell? ⟨b, o + 2, none⟩ = some (.int .i64 x.src) := (HB9.cell (p := ⟨b, o + 2, none⟩) hb).trans c2
   have c3 : wD.cell? ⟨b, o + 3, none⟩ = some (.int .i64 x.dst) := (HB9.cell (p := ⟨b, o + 3, none⟩) hb).trans c3
   have c4 : wD.cell? ⟨b, o + 4, none⟩ = some (.int .i64 x.index) := (HB9.cell (p := ⟨b, o + 4, none⟩) hb).trans c4
   have c5 : wD.cell? ⟨b, o + 5, none⟩ = some (.int .i64 x.write.kind) := (HB9.cell (p := ⟨b, o + 5, none⟩) hb).trans c5
   have c6 : wD.cell? ⟨b, o + 5 + 1, none⟩ = some (.int .i64 x.write.id) := (HB9.cell (p := ⟨b, o + 5 + 1, none⟩) hb).trans c6
   have c7 : wD.cell? ⟨b, o + 5 + 2, none⟩ = some (.slice a x.write.vec.length d) := (HB9.cell (p := ⟨b, o + 5 + 2, none⟩) hb).trans c7
   have c8 : wD.cell? ⟨b, o + 5 + 3, none⟩ = some (.int .i64 x.write.session) := (HB9.cell (p := ⟨b, o + 5 + 3, none⟩) hb).trans c8
   have c9 : wD.cell? ⟨b, o + 5 + 4, none⟩ = some (.int .i64 x.write.seq) := (HB9.cell (p := ⟨b, o + 5 + 4, none⟩) hb).trans c9
   have HWD := yh ((uh H).later HB9)
   replace hb : b < wD.heap.size := Nat.lt_of_lt_of_le hb HB9.size
   replace HB9 := yh HB9
   go_wp2_with fail
   refine (inC x.epoch 1 999 wD).mono ?_
   rintro e w1 ⟨rfl, h1⟩
   subst w1
   cases d12 : (decide (1 ≤ x.epoch) && decide (x.epoch ≤ 999))
   ·
    have HF := yh ((uh HRS).trans (mr_epoch d12))
    clear d12
    go_wp2_with fail
    go_ret
    exact ⟨by rw [uh HF]; rfl, uh HB9⟩
   skip
   go_wp2_with fail
   refine (node10C x.src wD).mono ?_
   rintro e w1 ⟨rfl, h1⟩
   subst w1
   cases d14 : (decide (1 ≤ x.src) && decide (x.src ≤ 5))
   ·
    have HF := yh ((uh HRS).trans (mr_src d14))
    clear d14
    go_wp2_with fail
    go_ret
    exact ⟨by rw [uh HF]; rfl, uh HB9⟩
   skip
   go_wp2_with fail
   refine (node10C x.dst wD).mono ?_
   rintro e w1 ⟨rfl, h1⟩
   subst w1
   cases d16 : (decide (1 ≤ x.dst) && decide (x.dst ≤ 5))
   ·
    have HF := yh ((uh HRS).trans (mr_dst d16))
    clear d16
    go_wp2_with fail
    go_ret
    exact ⟨by rw [uh HF]; rfl, uh HB9⟩
   skip
   go_wp2_with fail
   refine (inC x.index 0 40 wD).mono ?_
   rintro e w1 ⟨rfl, h1⟩
   subst w1
   cases d18 : (decide (0 ≤ x.index) && decide (x.index ≤ 40))
   ·
    have HF := yh ((uh HRS).trans (mr_index d18))
    clear d18
    go_wp2_with fail
    go_ret
    exact ⟨by rw [uh HF]; rfl, uh HB9⟩
   skip
   have HF : Hid (msgFault x = 0) := (uh HRS).trans ((mr_ok d12 d14 d16 d18 (Or.inl e2)).trans (if_pos (beq_iff_eq.1 e2)))
   clear d12 d14 d16 d18
   go_wp2_with fail
   go_ret
   exact ⟨by rw [uh HF]; rfl, uh HB9⟩
  have HF := yh (mf_self e1)
  go_upto_region 3 with fail
  refine wp_region_noPanic ?_
  refine wp_region_held_drew (S := fun w' => Below wc.heap.size wc w') (by kernel_rfl) (Below.refl _ _).drew (fun zq => ?_)
  generalize wc.drew = wD at zq ⊢
  refine tkH (i := 0) (oi := o149x1) (v := ?vb0_1) rfl ?hb0_1 zq ?rb0_1
  case hb0_1 => intro _ _; go_simp; try with_reducible rfl
  refine tkH (i := 1) (oi := o149x2) (v := ?vb1_2) rfl ?hb1_2 zq ?rb1_2
  case hb1_2 => intro _ _; go_simp; try with_reducible rfl
  refine tkH (i := 2) (oi := o149x3) (v := ?vb2_3) rfl ?hb2_3 zq ?rb2_3
  case hb2_3 => intro _ _; go_simp; try with_reducible rfl
  refine tkH (i := 3) (oi := o149x4) (v := ?vb3_4) rfl ?hb3_4 zq ?rb3_4
  case hb3_4 =>
   intro wS hSw
   have q0 := (hSw.cell (p := ⟨b, o, none⟩) hb).trans c0
   clear hSw
   (try dsimp only at hSw)
   go_simp
   try with_reducible rfl
  refine rdH (i := 4) (oi := o149x5) rfl (fun K hK => ?_)
  go_simp
  go_at_call 64
  refine (inC x.kind 1 2 _).mono ?_
  rintro e w1 ⟨rfl, h1⟩
  subst w1
  rw [d1]
  try go_wp2_with fail
  refine hK.out _ _ zq (fun zq => ?_)
  clear hK K
  try simp only [Act.put, pz, py, px]
  refine tkH (i := 5) (oi := o149x6) (v := ?vb5_5) rfl ?hb5_5 zq ?rb5_5
  case hb5_5 => intro _ _; go_simp; try with_reducible rfl
  refine tkH (i := 6) (oi := o149x7) (v := ?vb6_6) rfl ?hb6_6 zq ?rb6_6
  case hb6_6 => intro _ _; go_simp; try with_reducible rfl
  refine tkH (i := 7) (oi := o149x8) (v := ?vb7_7) rfl ?hb7_7 zq ?rb7_7
  case hb7_7 => intro _ _; go_simp; try with_reducible rfl
  refine tkH (i := 8) (oi := o149x9) (v := ?vb8_8) rfl ?hb8_8 zq ?rb8_8
  case hb8_8 => intro _ _; go_simp; try with_reducible rfl
  refine tkH (i := 9) (oi := o149x10) (v := ?vb9_9) rfl ?hb9_9 zq ?rb9_9
  case hb9_9 => intro _ _; go_simp; try with_reducible rfl
  refine tkH (i := 10) (oi := o149x11) (v := ?vb10_10) rfl ?hb10_10 zq ?rb10_10
  case hb10_10 =>
   intro wS hSw
   have q2 := (hSw.cell (p := ⟨b, o + 2, none⟩) hb).trans c2
   clear hSw
   (try dsimp only at hSw)
   go_simp
   try with_reducible rfl
  refine tkH (i := 11) (oi := o149x12) (v := ?vb11_11) rfl ?hb11_11 zq ?rb11_11
  case hb11_11 => intro _ _; go_simp; try with_reducible rfl
  refine tkH (i := 12) (oi := o149x13) (v := ?vb12_12) rfl ?hb12_12 zq ?rb12_12
  case hb12_12 => intro _ _; go_simp; try with_reducible rfl
  refine tkH (i := 13) (oi := o149x14) (v := ?vb13_13) rfl ?hb13_13 zq ?rb13_13
  case hb13_13 => intro _ _; go_simp; try with_reducible rfl
  refine tkH (i := 14) (oi := o149x15) (v := ?vb14_14) rfl ?hb14_14 zq ?rb14_14
  case hb14_14 =>
   intro wS hSw
   have q3 := (hSw.cell (p := ⟨b, o + 3, none⟩) hb).trans c3
   clear hSw
   (try dsimp only at hSw)
   go_simp
   try with_reducible rfl
  refine tkH (i := 15) (oi := o149x16) (v := ?vb15_15) rfl ?hb15_15 zq ?rb15_15
  case hb15_15 => intro _ _; go_simp; try with_reducible rfl
  refine tkH (i := 16) (oi := o149x17) (v := ?vb16_16) rfl ?hb16_16 zq ?rb16_16
  case hb16_16 => intro _ _; go_simp; try with_reducible rfl
  refine tkH (i := 17) (oi := o149x18) (v := ?vb17_17) rfl ?hb17_17 zq ?rb17_17
  case hb17_17 => intro _ _; go_simp; try with_reducible rfl
  refine skH (i := 18) (oi := o149x19) rfl zq ?_
  refine skH (i := 19) (oi := o149x20) rfl zq ?_
  refine skH (i := 20) (oi := o149x21) rfl zq ?_
  refine skH (i := 21) (oi := o149x22) rfl zq ?_
  refine skH (i := 22) (oi := o149x23) rfl zq ?_
  refine tkH (i := 23) (oi := o149x24) (v := ?vb23_23) rfl ?hb23_23 zq ?rb23_23
  case hb23_23 => intro _ _; go_simp; try with_reducible rfl
  refine wpAnyH_done (by kernel_rfl) ?_ _
  refine NoPanic.normal ?_
  have HB9 := yh zq
  clear zq
  go_wp2_with fail
  go_ret
  exact ⟨by rw [uh HF]; rfl, uh HB9⟩
theorem msg_row {w : World} {b off cap : Nat} {xs : List DMsg} (h : (Lay.sl Lay.tMsg).Reads w [.slice (some ⟨b, off, none⟩) xs.length cap] xs) {k : Nat} (hk : k < xs.length) : ∃ a d, MsgAt w b (off + k * 10) xs[k] (.slice a xs[k].write.vec.length d) ∧ (Lay.sl Lay.int).Reads w [.slice a xs[k].write.vec.length d] xs[k].write.vec := by
 obtain ⟨row, hc, hr⟩ := Lay.row_at h hk
 obtain ⟨a, d, rfl, R⟩ := open_Msg hr
 exact ⟨a, d, ⟨hc 0 (by decide), hc 1 (by decide), hc 2 (by decide), hc 3 (by decide), hc 4 (by decide), hc 5 (by decide), hc 6 (by decide), hc 7 (by decide), hc 8 (by decide), hc 9 (by decide)⟩, write_vec R⟩
theorem nf_many {xs : List DMsg} (h : 40 < xs.length) : netFault xs = 2 := by rw [netFault, if_pos h]
theorem nf_few {xs : List DMsg} (h : ¬ 40 < xs.length) : netFault xs = msgsFrom xs := by rw [netFault, if_neg h]
theorem l11FaultC (v : Value) (xs : List DMsg) (w : World) (h : (Lay.sl Lay.tMsg).Reads w [v] xs) :
  Calls Tryz.prog 180 #[v] w fun e w' => e = .returned (.int .i64 (netFault xs)) ∧ Below w.heap.size w w' := by
 obtain ⟨ao, cap, rfl⟩ := open_sl h
 have hbig := h.big
 have H := yh h
 clear h
 by_cases h40 : 40 < xs.length
 ·
  have HF := yh (nf_many h40)
  have hd : decide ((40 : Int) < (xs.length : Int)) = true := by simp; omega
  go_enter Tryz.func180, Tryz.ntmps180
  go_wp2_with fail
  go_ret
  exact ⟨by rw [uh HF]; rfl, Below.refl _ _⟩
 have HF := yh (nf_few h40)
 have hd : decide ((40 : Int) < (xs.length : Int)) = false := by simp; omega
 go_enter Tryz.func180, Tryz.ntmps180
 go_wp2_with fail
 clear hd
 go_loopw [3] (fun i wr => ∃ k : Nat, k ≤ xs.length ∧ i = .int .i64 k ∧ (∀ j (hj : j < xs.length), j < k → msgFault xs[j] = 0) ∧ Below w.heap.size w wr) (fun i _ => xs.length - (intOf i).toNat)
 case atStart => exact ⟨0, Nat.zero_le _, rfl, fun j _ hj => by omega, Below.refl _ _⟩
 case round =>
  obtain ⟨k, hk, rfl, hz, hB⟩ := hrel
  by_cases hlt : k < xs.length
  ·
   obtain ⟨b, off, rfl, hbl⟩ := Lay.sl_addr (uh H) (by omega)
   obtain ⟨a, d, hM, R⟩ := msg_row ((uh H).later hB) hlt
   have HL := yh (l11MsgC b (off + k * 10) a d xs[k] wr hM R)
   have hbr : b < wr.heap.size := Nat.lt_of_lt_of_le hbl hB.size
   have hdl : decide ((k : Int) < (xs.length : Int)) = true := by simp; omega
   have HB := yh hB
   have HAT : Hid (msgFault xs[k] ≠ 0 → msgsFrom xs = msgFault xs[k]) := fun q => msgsFrom_at hlt (fun j hj => hz j (by omega) hj) q
   have HZ2 : Hid (msgFault xs[k] = 0 → ∀ j (hj : j < xs.length), j < k + 1 → msgFault xs[j] = 0) := by
    intro h0 j hj hjk
    by_cases hjk2 : j < k
    ·
     exact hz j hj hjk2
    obtain rfl : j = k := by omega
    exact h0
   clear hz hM R hB
   generalize msgFault xs[k] = f at *
   go_wp2_with fail
   refine (uh HL).mono ?_
   rintro e w2 ⟨rfl, hb⟩
   have HB2 := yh ((uh HB).trans (hb.mono (uh HB).size))
   clear hb HL HB
   by_cases hf : f = 0
   ·
    have HZ3 := yh (uh HZ2 hf)
    subst hf
    clear HZ2 HAT
    go_wp2_with fail
    go_roundw
    case rel => exact ⟨k + 1, by omega, by go_num, uh HZ3, uh HB2⟩
    case measure => simp [intOf]; omega
   have HA := yh ((uh HF).trans (uh HAT hf))
   have hd : (f != 0) = true := by simpa using hf
   clear HZ2 HAT hf
   go_wp2_with fail
   go_ret
   exact ⟨by rw [uh HA]; rfl, uh HB2⟩
  obtain rfl : k = xs.length := by omega
  have hdl : decide ((xs.length : Int) < (xs.length : Int)) = false := by simp
  have HA := yh ((uh HF).trans (msgsFrom_all fun x hx => by obtain ⟨j, hj, rfl⟩ := List.getElem_of_mem hx; exact hz j hj hj))
  have HB := yh hB
  clear hB hz
  go_wp2_with fail
  go_ret
  exact ⟨by rw [uh HA]; rfl, uh HB⟩
theorem l12FaultC (a3 : Option Addr) (d3 : Nat) (a4 : Option Addr) (d4 : Nat) (a5 : Option Addr) (d5 : Nat) (a6 : Option Addr) (d6 : Nat) (x : DWorld) (xb : Nat) (w : World) (hX : Box 0 #[.int .i64 x.now, .int .i64 x.events, .int .i64 x.chain.epoch, .slice a3 x.chain.ids.length d3, .slice a4 x.nodes.length d4, .slice a5 x.msgs.length d5, .slice a6 x.history.length d6] 36 w xb) (h : Lay.tWorld.Reads w [.int .i64 x.now, .int .i64 x.events, .int .i64 x.chain.epoch, .slice a3 x.chain.ids.length d3, .slice a4 x.nodes.length d4, .slice a5 x.msgs.length d5, .slice a6 x.history.length d6] x) :
  Calls Tryz.prog 95 #[.pointer (some ⟨xb, 0, none⟩)] w fun e w' => e = .returned (.int .i64 (worldFault x)) ∧ Below w.heap.size w w' := by
 have HX := yh hX
 have HR := yh h
 have HB := yh (Below.refl w.heap.size w)
 have HP : Hid (worldFault x = if (decide (0 ≤ x.now) && decide (x.now ≤ 9000)) = false ∨ (decide (0 ≤ x.events) && decide (x.events ≤ 9999)) = false then 3 else if chainFault x.chain ≠ 0 then chainFault x.chain
  else if x.nodes.length < 1 ∨ 5 < x.nodes.length then 2 else if nodesFault x ≠ 0 then nodesFault x else if netFault x.msgs ≠ 0 then netFault x.msgs
  else if 60 < x.history.length then 2 else if (x.history.drop 0).all (entryB x) = true then 0 else 3) := by
  have e1 : (¬ (0 ≤ x.now ∧ x.now ≤ 9000) ∨ ¬ (0 ≤ x.events ∧ x.events ≤ 9999)) ↔ ((decide (0 ≤ x.now) && decide (x.now ≤ 9000)) = false ∨ (decide (0 ≤ x.events) && decide (x.events ≤ 9999)) = false) := by
   simp only [Bool.and_eq_false_iff, decide_eq_false_iff_not]
   omega
  show worldFault x = _
  unfold worldFault
  by_cases h1 : (decide (0 ≤ x.now) && decide (x.now ≤ 9000)) = false ∨ (decide (0 ≤ x.events) && decide (x.events ≤ 9999)) = false
  ·
   rw [if_pos (e1.2 h1), if_pos h1]
  rw [if_neg (fun q => h1 (e1.1 q)), if_neg h1]
  rfl
 clear h hX
 generalize worldFault x = r at *
 have z0 := Box.at (uh HX) 0 _ rfl
 have z1 := Box.at (uh HX) 1 _ rfl
 have z2 := Box.at (uh HX) 2 _ rfl
 have z3 := Box.at (uh HX) 3 _ rfl
 have z4 := Box.at (uh HX) 4 _ rfl
 have z5 := Box.at (uh HX) 5 _ rfl
 have z6 := Box.at (uh HX) 6 _ rfl
 simp only [ga, gb, gc] at z0 z1 z2 z3 z4 z5 z6
 have xl := (uh HX).lt
 go_enter Tryz.func95, Tryz.ntmps95
 go_wp2_with fail
 refine (inC x.now 0 9000 w).mono ?_
 rintro e w2 ⟨rfl, h2⟩
 subst w2
 cases d1 : (decide (0 ≤ x.now) && decide (x.now ≤ 9000))
 ·
  replace HP := yh ((uh HP).trans (if_pos (Or.inl d1)))
  clear d1
  go_wp2_with fail
  go_ret
  exact ⟨by rw [uh HP]; rfl, uh HB⟩
 go_wp2_with fail
 refine (inC x.events 0 9999 w).mono ?_
 rintro e w2 ⟨rfl, h2⟩
 subst w2
 cases d2 : (decide (0 ≤ x.events) && decide (x.events ≤ 9999))
 ·
  replace HP := yh ((uh HP).trans (if_pos (Or.inr d2)))
  clear d1 d2
  go_wp2_with fail
  go_ret
  exact ⟨by rw [uh HP]; rfl, uh HB⟩
 replace HP := yh ((uh HP).trans (if_neg (by rw [d1, d2]; simp)))
 clear d1 d2
 go_wp2_with fail
 obtain ⟨_, _, _, _, _, _, _, _, hq, RC, -, -, -⟩ := open_World (uh HR)
 simp only [List.cons.injEq, Value.slice.injEq, and_true, true_and] at hq
 obtain ⟨⟨rfl, rfl⟩, ⟨rfl, rfl⟩, ⟨rfl, rfl⟩, rfl, rfl⟩ := hq
 obtain ⟨_, _, hq, RI⟩ := open_Chain RC
 simp only [List.cons.injEq, Value.slice.injEq, and_true, true_and] at hq
 obtain ⟨rfl, rfl⟩ := hq
 refine (l10FaultO xb 2 _ _ x.chain w ⟨(uh HX).at 2 _ rfl, (uh HX).at 3 _ rfl⟩ RI).mono ?_
 rintro e w2 ⟨rfl, h2⟩
 subst w2
 clear RC RI
 by_cases d3 : chainFault x.chain ≠ 0
 ·
  have hd : (chainFault x.chain != 0) = true := by simpa using d3
  replace HP := yh ((uh HP).trans (if_pos d3))
  clear d3
  generalize chainFault x.chain = c at *
  go_wp2_with fail
  go_ret
  exact ⟨by rw [uh HP]; rfl, uh HB⟩
 replace HP := yh ((uh HP).trans (if_neg d3))
 have hd : chainFault x.chain = 0 := by simpa using d3
 clear d3
 rw [hd]
 clear hd
 have hbn := (show x.nodes.length ≤ 9223372036854775807 from by
  obtain ⟨_, _, _, _, _, _, _, _, hq, -, RN, -, -⟩ := open_World (uh HR)
  exact RN.big)
 by_cases d4 : x.nodes.length < 1 ∨ 5 < x.nodes.length
 ·
  replace HP := yh ((uh HP).trans (if_pos d4))
  by_cases d5 : x.nodes.length < 1
  ·
   have hd : decide ((x.nodes.length : Int) < 1) = true := by simp; omega
   clear d4 d5
   go_wp2_with fail
   go_ret
   exact ⟨by rw [uh HP]; rfl, uh HB⟩
  have hd : decide ((x.nodes.length : Int) < 1) = false := by simp; omega
  have hd2 : decide ((5 : Int) < (x.nodes.length : Int)) = true := by simp; omega
  clear d4 d5
  go_wp2_with fail
  go_ret
  exact ⟨by rw [uh HP]; rfl, uh HB⟩
 replace HP := yh ((uh HP).trans (if_neg d4))
 have hd : decide ((x.nodes.length : Int) < 1) = false := by simp; omega
 have hd2 : decide ((5 : Int) < (x.nodes.length : Int)) = false := by simp; omega
 have hn5 : x.nodes.length ≤ 5 := by omega
 clear d4
 go_wp2_with fail
 refine (l12NodesC _ _ _ _ _ _ _ _ x xb w (uh HX) (uh HR)).mono ?_
 rintro e w4 ⟨rfl, hb⟩
 clear xl hn5 z0 z1 z2 z3 z4 z5 z6
 replace HX := yh ((uh HX).keep hb)
 replace HR := yh ((uh HR).later hb)
 replace HB := yh ((uh HB).trans (hb.mono (uh HB).size))
 clear hb
 have z0 := Box.at (uh HX) 0 _ rfl
 have z1 := Box.at (uh HX) 1 _ rfl
 have z2 := Box.at (uh HX) 2 _ rfl
 have z3 := Box.at (uh HX) 3 _ rfl
 have z4 := Box.at (uh HX) 4 _ rfl
 have z5 := Box.at (uh HX) 5 _ rfl
 have z6 := Box.at (uh HX) 6 _ rfl
 simp only [ga, gb, gc] at z0 z1 z2 z3 z4 z5 z6
 have xl := (uh HX).lt
 by_cases d3 : nodesFault x ≠ 0
 ·
  have hd : (nodesFault x != 0) = true := by simpa using d3
  replace HP := yh ((uh HP).trans (if_pos d3))
  clear d3
  generalize nodesFault x = c at *
  go_wp2_with fail
  go_ret
  exact ⟨by rw [uh HP]; rfl, uh HB⟩
 replace HP := yh ((uh HP).trans (if_neg d3))
 have hd : nodesFault x = 0 := by simpa using d3
 clear d3
 rw [hd]
 clear hd
 go_wp2_with fail
 obtain ⟨_, _, _, _, _, _, _, _, hq, -, -, RM, -⟩ := open_World (uh HR)
 simp only [List.cons.injEq, Value.slice.injEq, and_true, true_and] at hq
 obtain ⟨⟨rfl, rfl⟩, ⟨rfl, rfl⟩, ⟨rfl, rfl⟩, rfl, rfl⟩ := hq
 refine (l11FaultC _ x.msgs w4 RM).mono ?_
 rintro e w5 ⟨rfl, hb⟩
 clear RM xl z0 z1 z2 z3 z4 z5 z6
 replace HX := yh ((uh HX).keep hb)
 replace HR := yh ((uh HR).later hb)
 replace HB := yh ((uh HB).trans (hb.mono (uh HB).size))
 clear hb
 have z0 := Box.at (uh HX) 0 _ rfl
 have z1 := Box.at (uh HX) 1 _ rfl
 have z2 := Box.at (uh HX) 2 _ rfl
 have z3 := Box.at (uh HX) 3 _ rfl
 have z4 := Box.at (uh HX) 4 _ rfl
 have z5 := Box.at (uh HX) 5 _ rfl
 have z6 := Box.at (uh HX) 6 _ rfl
 simp only [ga, gb, gc] at z0 z1 z2 z3 z4 z5 z6
 have xl := (uh HX).lt
 by_cases d3 : netFault x.msgs ≠ 0
 ·
  have hd : (netFault x.msgs != 0) = true := by simpa using d3
  replace HP := yh ((uh HP).trans (if_pos d3))
  clear d3
  generalize netFault x.msgs = c at *
  go_wp2_with fail
  go_ret
  exact ⟨by rw [uh HP]; rfl, uh HB⟩
 replace HP := yh ((uh HP).trans (if_neg d3))
 have hd : netFault x.msgs = 0 := by simpa using d3
 clear d3
 rw [hd]
 clear hd
 obtain ⟨_, _, _, _, _, _, _, _, hq, -, -, -, RE⟩ := open_World (uh HR)
 simp only [List.cons.injEq, Value.slice.injEq, and_true, true_and] at hq
 obtain ⟨⟨rfl, rfl⟩, ⟨rfl, rfl⟩, ⟨rfl, rfl⟩, rfl, rfl⟩ := hq
 have HE := yh RE
 have hbig := RE.big
 clear RE
 by_cases d4 : 60 < x.history.length
 ·
  replace HP := yh ((uh HP).trans (if_pos d4))
  have hd : decide ((60 : Int) < (x.history.length : Int)) = true := by simp; omega
  clear d4
  go_wp2_with fail
  go_ret
  exact ⟨by rw [uh HP]; rfl, uh HB⟩
 replace HP := yh ((uh HP).trans (if_neg d4))
 have hd : decide ((60 : Int) < (x.history.length : Int)) = false := by simp; omega
 clear d4
 go_wp2_with fail
 clear z0 z1 z2 z3 z4 z5 z6 xl hd
 go_loopw [6] (fun i wr => ∃ k : Nat, k ≤ x.history.length ∧ i = .int .i64 k ∧ r = (if (x.history.drop k).all (entryB x) = true then 0 else 3) ∧ Below w5.heap.size w5 wr) (fun i _ => x.history.length - (intOf i).toNat)
 case atStart => exact ⟨0, Nat.zero_le _, rfl, uh HP, Below.refl _ _⟩
 case round =>
  obtain ⟨k, hk, rfl, hF, hB⟩ := hrel
  clear HP
  have hX2 := (uh HX).keep hB
  have y6 := Box.at hX2 6 _ rfl
  simp only [ga, gb, gc] at y6
  have xl := hX2.lt
  have HB3 := yh ((uh HB).trans (hB.mono (uh HB).size))
  by_cases hlt : k < x.history.length
  ·
   obtain ⟨b, off, rfl, hbl⟩ := Lay.sl_addr (uh HE) (by omega)
   obtain ⟨row, hcl, hr⟩ := Lay.row_at (uh HE) hlt
   rw [List.drop_eq_getElem_cons hlt, List.all_cons] at hF
   have hdl : decide ((k : Int) < (x.history.length : Int)) = true := by simp; omega
   have hrl := hr.len
   obtain ⟨aq, dq, av, dv, ah, dh, rfl, -⟩ := open_Entry hr
   have hE : RowIn #[.int .i64 (x.history[k]).kind, .int .i64 (x.history[k]).session, .int .i64 (x.history[k]).seq, .int .i64 (x.history[k]).id, .slice aq (x.history[k]).query.length dq, .int .i64 (x.history[k]).k, .int .i64 (x.history[k]).start, .int .i64 (x.history[k]).fin, .int .i64 (x.history[k]).place, .slice av (x.history[k]).vec.length dv, .slice ah (x.history[k]).hits.length dh] wr b (off + k * 11) := RowIn.ofRow (A := Lay.tEntry) (k := k) (fun m hm => (hB.cell (p := ⟨b, off + k * 11 + m, none⟩) hbl).trans (hcl m hm)) hrl (Nat.lt_of_lt_of_le hbl hB.size)
   have HL := yh (l12EntryC _ _ _ _ _ _ _ _ _ _ _ _ _ _ x _ xb b (off + k * 11) wr hX2 hE)
   have HF := yh hF
   have HBQ := yh hB
   clear hF hX2 hB hr hrl hcl hE
   generalize x.history[k] = z at *
   go_wp2_with fail
   refine (uh HL).mono ?_
   rintro e w5 ⟨rfl, hb⟩
   replace HB3 := yh ((uh HB3).trans (hb.mono (uh HB3).size))
   replace HBQ := yh ((uh HBQ).trans (hb.mono (uh HBQ).size))
   clear HL hb y6
   generalize entryB x z = q at *
   cases q
   ·
    replace HF := yh ((uh HF).trans (if_neg (by simp)))
    go_wp2_with fail
    go_ret
    exact ⟨by rw [uh HF]; rfl, uh HB3⟩
   rw [Bool.true_and] at HF
   go_wp2_with fail
   go_roundw
   case rel => exact ⟨k + 1, by omega, by go_num, uh HF, uh HBQ⟩
   case measure => simp [intOf]; omega
  obtain rfl : k = x.history.length := by omega
  rw [List.drop_length, List.all_nil, if_pos rfl] at hF
  have hdl : decide ((x.history.length : Int) < (x.history.length : Int)) = false := by simp
  have HF := yh hF
  clear hF hB hX2
  go_wp2_with fail
  go_ret
  exact ⟨by rw [uh HF]; rfl, uh HB3⟩
theorem l14MayC (a3 : Option Addr) (d3 : Nat) (b off d4 : Nat) (a5 : Option Addr) (d5 : Nat) (a6 : Option Addr) (d6 : Nat) (x : DWorld) (id : Int) (xb : Nat) (w : World) (hX : Box 0 #[.int .i64 x.now, .int .i64 x.events, .int .i64 x.chain.epoch, .slice a3 x.chain.ids.length d3, .slice (some ⟨b, off, none⟩) x.nodes.length d4, .slice a5 x.msgs.length d5, .slice a6 x.history.length d6] 36 w xb) (h : Lay.tWorld.Reads w [.int .i64 x.now, .int .i64 x.events, .int .i64 x.chain.epoch, .slice a3 x.chain.ids.length d3, .slice (some ⟨b, off, none⟩) x.nodes.length d4, .slice a5 x.msgs.length d5, .slice a6 x.history.length d6] x) (hn5 : x.nodes.length ≤ 5) :
  Calls Tryz.prog 124 #[.pointer (some ⟨xb, 0, none⟩), .int .i64 id] w fun e w' => e = .returned (.int .i64 (standR x id)) ∧ Below w.heap.size w w' := by
 have HX := yh hX
 have HR := yh h
 have HN5 := yh hn5
 have HP : Hid (standR x id = if nodeIn x id = false then 4 else if memberB x id = false then 10 else if (nodeOf x id).lease < x.now then 9 else 0) := rfl
 have HL := yh (l12NodeC a3 d3 (some ⟨b, off, none⟩) d4 a5 d5 a6 d6 x id xb w hX)
 have HB := yh (Below.refl w.heap.size w)
 clear h hX hn5
 generalize standR x id = r at *
 go_enter Tryz.func124, Tryz.ntmps124
 go_wp2_with fail
 refine (uh HL).mono ?_
 rintro e wa ⟨rfl, hwa⟩
 subst wa
 clear HL
 cases hni : nodeIn x id
 ·
  replace HP := yh ((uh HP).trans (if_pos hni))
  go_wp2_with fail
  go_ret
  exact ⟨by rw [uh HP]; rfl, uh HB⟩
 replace HP := yh ((uh HP).trans (if_neg (by rw [hni]; decide)))
 obtain ⟨k, hk, rfl⟩ := nodeIn_at hni
 have HM := yh (l12MemberC a3 d3 b off d4 a5 d5 a6 d6 x k xb w (uh HX) (uh HR) hk (uh HN5))
 go_wp2_with fail
 refine (uh HM).mono ?_
 rintro e w2 ⟨rfl, hb⟩
 replace HX := yh ((uh HX).keep hb)
 replace HR := yh ((uh HR).later hb)
 replace HB := yh hb
 clear hb HM
 cases hm : memberB x ((k : Int) + 1)
 ·
  replace HP := yh ((uh HP).trans (if_pos hm))
  go_wp2_with fail
  go_ret
  exact ⟨by rw [uh HP]; rfl, uh HB⟩
 replace HP := yh ((uh HP).trans (if_neg (by rw [hm]; decide)))
 rw [nodeOf_at hk] at HP
 obtain ⟨_, _, _, _, _, _, _, _, hq, -, RN, -, -⟩ := open_World (uh HR)
 simp only [List.cons.injEq, Value.slice.injEq, and_true, true_and] at hq
 obtain ⟨-, ⟨rfl, rfl⟩, -, -, -⟩ := hq
 obtain ⟨row, hcl, hr⟩ := Lay.row_at RN hk
 obtain ⟨an, dn, rfl, -⟩ := open_Node hr
 have x3 : w2.drew.cell? ⟨b, off + k * 7 + 3, none⟩ = some (.int .i64 x.nodes[k].lease) := hcl 3 (by decide)
 have z0 : w2.drew.cell? ⟨xb, 0, none⟩ = some (.int .i64 x.now) := Box.at (uh HX) 0 _ rfl
 have z4 : w2.drew.cell? ⟨xb, 4, none⟩ = some (.slice (some ⟨b, off, none⟩) x.nodes.length d4) := Box.at (uh HX) 4 _ rfl
 replace HB : Hid (Below w.heap.size w w2.drew) := (uh HB).drew
 have hw1 : IntKind.i64.wrap (k : Int) = (k : Int) := by
  have := uh HN5
  rw [IntKind.wrap_i64]
  omega
 have hki : (k : Int) < (x.nodes.length : Int) := by omega
 have hki0 : (0 : Int) ≤ (k : Int) := by omega
 clear hcl hr RN HR hni hm HN5 HX
 generalize x.nodes[k] = n at *
 go_upto_region 5 with fail
 refine wp_region_noPanic ?_
 refine wp_region_held_drew (S := fun w' => w' = w2.drew) (by kernel_rfl) rfl (fun zq => ?_)
 generalize w2.drew = wD at zq x3 z4 z0 HB ⊢
 refine tkH (i := 0) (oi := ⟨some 13, .move (.tmp 0), 76, "l14_read.go:22", #[], none⟩) (v := ?vk0) rfl ?hk0 zq ?rk0
 case hk0 => intro _ _; go_simp; try with_reducible rfl
 refine tkH (i := 1) (oi := ⟨some 14, .nilCheck (.tmp 13), 0, "l14_read.go:22", #[⟨0, .data⟩], none⟩) (v := ?vk1) rfl ?hk1 zq ?rk1
 case hk1 => intro _ _; go_simp; try with_reducible rfl
 refine tkH (i := 2) (oi := ⟨some 15, .fieldAddr 36 (.tmp 14) 3, 0, "l14_read.go:22", #[⟨1, .data⟩], none⟩) (v := ?vk2) rfl ?hk2 zq ?rk2
 case hk2 => intro _ _; go_simp; try with_reducible rfl
 refine tkH (i := 3) (oi := ⟨some 16, .load 32 (.tmp 15), 32, "l14_read.go:22", #[⟨2, .data⟩], none⟩) (v := ?vk3) rfl ?hk3 zq ?rk3
 case hk3 =>
  intro wS hSw
  have q4 : wS.cell? ⟨xb, 4, none⟩ = some (.slice (some ⟨b, off, none⟩) x.nodes.length d4) := by rw [hSw]; exact z4
  clear hSw
  (try dsimp only at hSw)
  go_simp
  try with_reducible rfl
 refine tkH (i := 4) (oi := ⟨some 17, .move (.tmp 1), 2, "l14_read.go:22", #[], none⟩) (v := ?vk4) rfl ?hk4 zq ?rk4
 case hk4 => intro _ _; go_simp; try with_reducible rfl
 refine tkH (i := 5) (oi := ⟨some 18, .binOp .sub 2 (.tmp 17) (.const (.int .i64 1)) 2, 2, "l14_read.go:22", #[⟨4, .data⟩], none⟩) (v := ?vk5) rfl ?hk5 zq ?rk5
 case hk5 => intro _ _; go_simp; try with_reducible rfl
 refine tkH (i := 6) (oi := ⟨some 19, .indexAddr 32 (.tmp 16) (.tmp 18), 0, "l14_read.go:22", #[⟨3, .data⟩, ⟨5, .data⟩], none⟩) (v := ?vk6) rfl ?hk6 zq ?rk6
 case hk6 => intro _ _; go_simp; try with_reducible rfl
 refine tkH (i := 7) (oi := ⟨some 20, .fieldAddr 84 (.tmp 19) 3, 0, "l14_read.go:22", #[⟨6, .data⟩], none⟩) (v := ?vk7) rfl ?hk7 zq ?rk7
 case hk7 => intro _ _; go_simp; try with_reducible rfl
 refine tkH (i := 8) (oi := ⟨some 21, .load 2 (.tmp 20), 2, "l14_read.go:22", #[⟨7, .data⟩], none⟩) (v := ?vk8) rfl ?hk8 zq ?rk8
 case hk8 =>
  intro wS hSw
  have q3 : wS.cell? ⟨b, off + k * 7 + 3, none⟩ = some (.int .i64 n.lease) := by rw [hSw]; exact x3
  clear hSw
  (try dsimp only at hSw)
  go_simp
  try with_reducible rfl
 refine tkH (i := 9) (oi := ⟨some 22, .move (.tmp 0), 76, "l14_read.go:22", #[], none⟩) (v := ?vk9) rfl ?hk9 zq ?rk9
 case hk9 => intro _ _; go_simp; try with_reducible rfl
 refine tkH (i := 10) (oi := ⟨some 23, .nilCheck (.tmp 22), 0, "l14_read.go:22", #[⟨9, .data⟩], none⟩) (v := ?vk10) rfl ?hk10 zq ?rk10
 case hk10 => intro _ _; go_simp; try with_reducible rfl
 refine tkH (i := 11) (oi := ⟨some 24, .fieldAddr 36 (.tmp 23) 0, 0, "l14_read.go:22", #[⟨10, .data⟩], none⟩) (v := ?vk11) rfl ?hk11 zq ?rk11
 case hk11 => intro _ _; go_simp; try with_reducible rfl
 refine tkH (i := 12) (oi := ⟨some 25, .load 2 (.tmp 24), 2, "l14_read.go:22", #[⟨11, .data⟩], none⟩) (v := ?vk12) rfl ?hk12 zq ?rk12
 case hk12 =>
  intro wS hSw
  have q0 : wS.cell? ⟨xb, 0, none⟩ = some (.int .i64 x.now) := by rw [hSw]; exact z0
  clear hSw
  (try dsimp only at hSw)
  go_simp
  try with_reducible rfl
 refine tkH (i := 13) (oi := ⟨some 26, .binOp .lss 2 (.tmp 21) (.tmp 25) 2, 4, "l14_read.go:22", #[⟨8, .data⟩, ⟨12, .data⟩], none⟩) (v := ?vk13) rfl ?hk13 zq ?rk13
 case hk13 => intro _ _; go_simp; try with_reducible rfl
 refine wpAnyH_done (by kernel_rfl) ?_ _
 refine NoPanic.normal ?_
 clear zq
 have HP2 : Hid (r = if decide (n.lease < x.now) = true then 9 else 0) := by
  show r = _
  rw [uh HP]
  by_cases q : n.lease < x.now
  ·
   rw [if_pos q, if_pos (by simpa using q)]
  rw [if_neg q, if_neg (by simpa using q)]
 clear HP x3 z0 z4
 generalize decide (n.lease < x.now) = q at *
 cases q
 ·
  go_wp2_with fail
  go_ret
  exact ⟨by rw [uh HP2]; rfl, uh HB⟩
 go_wp2_with fail
 go_ret
 exact ⟨by rw [uh HP2]; rfl, uh HB⟩
theorem specMayAnswer (cs : List Value) (x : DWorld) (id : Int) (w : World) (h : Lay.tWorld.Reads w cs x) :
  Calls Tryz.prog 54 #[.agg cs.toArray, .int .i64 id] w fun e w' => e = .returned (.int .i64 (mayR x id)) ∧ Below w.heap.size w w' := by
 obtain ⟨a3, d3, a4, d4, a5, d5, a6, d6, rfl, -, -, -, -⟩ := open_World h
 have nb : Below w.heap.size w (w.alloc (.cells #[.int .i64 x.now, .int .i64 x.events, .int .i64 x.chain.epoch, .slice a3 x.chain.ids.length d3, .slice a4 x.nodes.length d4, .slice a5 x.msgs.length d5, .slice a6 x.history.length d6] 36)) := (Below.refl _ _).alloc (Nat.le_refl _) _
 have HX : Hid (Box 0 #[.int .i64 x.now, .int .i64 x.events, .int .i64 x.chain.epoch, .slice a3 x.chain.ids.length d3, .slice a4 x.nodes.length d4, .slice a5 x.msgs.length d5, .slice a6 x.history.length d6] 36 (w.alloc (.cells #[.int .i64 x.now, .int .i64 x.events, .int .i64 x.chain.epoch, .slice a3 x.chain.ids.length d3, .slice a4 x.nodes.length d4, .slice a5 x.msgs.length d5, .slice a6 x.history.length d6] 36)) w.heap.size) := newBox (Nat.zero_le _)
 have HR := yh (h.later nb)
 have HB := yh nb
 have HP : Hid (mayR x id = if worldFault x ≠ 0 then worldFault x else standR x id) := rfl
 clear nb h
 generalize mayR x id = r at *
 go_enter Tryz.func54, Tryz.ntmps54
 go_upto_region 1 with fail
 generalize (w.alloc (.cells #[.int .i64 x.now, .int .i64 x.events, .int .i64 x.chain.epoch, .slice a3 x.chain.ids.length d3, .slice a4 x.nodes.length d4, .slice a5 x.msgs.length d5, .slice a6 x.history.length d6] 36)) = W1 at *
 go_wp2_with fail
 refine (l12FaultC a3 d3 a4 d4 a5 d5 a6 d6 x w.heap.size W1 (uh HX) (uh HR)).mono ?_
 rintro e wa ⟨rfl, hb⟩
 replace HX := yh ((uh HX).keep hb)
 replace HR := yh ((uh HR).later hb)
 replace HB := yh ((uh HB).trans (hb.mono (uh HB).size))
 clear hb
 by_cases d1 : worldFault x ≠ 0
 ·
  have hd : (worldFault x != 0) = true := by simpa using d1
  replace HP := yh ((uh HP).trans (if_pos d1))
  clear d1
  generalize worldFault x = c at *
  go_wp2_with fail
  go_ret
  exact ⟨by rw [uh HP]; rfl, uh HB⟩
 replace HP := yh ((uh HP).trans (if_neg d1))
 have hd : worldFault x = 0 := by simpa using d1
 have hok := worldFault_zero hd
 rw [hd]
 clear d1 hd
 obtain ⟨_, _, _, _, _, _, _, _, hq, -, RN, -, -⟩ := open_World (uh HR)
 simp only [List.cons.injEq, Value.slice.injEq, and_true, true_and] at hq
 obtain ⟨-, ⟨rfl, rfl⟩, -, -, -⟩ := hq
 obtain ⟨b, off, rfl, hbl⟩ := Lay.sl_addr RN (by have := hok.some.1; omega)
 have HL := yh (l14MayC a3 d3 b off d4 a5 d5 a6 d6 x id w.heap.size wa (uh HX) (uh HR) hok.some.2)
 clear RN hok
 go_wp2_with fail
 refine (uh HL).mono ?_
 rintro e w2 ⟨rfl, hb⟩
 replace HB := yh ((uh HB).trans (hb.mono (uh HB).size))
 clear hb HL
 generalize standR x id = q at *
 go_wp2_with fail
 go_ret
 exact ⟨by rw [uh HP]; rfl, uh HB⟩
end Go.Proofs.YtoanimpijfijgaaGreat

namespace Go.Proofs.YtoanimpijfijgaaGreat
open Go Go.RowKit Ieee
theorem fl_log2 {x : Nat} (hx : x ≠ 0) (S : Nat) : (x <<< S).log2 = x.log2 + S := by
 have h0 : x <<< S ≠ 0 := by
  rw [Nat.shiftLeft_eq]
  exact Nat.mul_ne_zero hx (Nat.pos_iff_ne_zero.1 (Nat.two_pow_pos S))
 have h := (Nat.log2_eq_iff hx).1 rfl
 refine (Nat.log2_eq_iff h0).2 ?_
 rw [Nat.shiftLeft_eq]
 constructor
 ·
  rw [Nat.pow_add]; exact Nat.mul_le_mul_right _ h.1
 rw [show x.log2 + S + 1 = (x.log2 + 1) + S by omega, Nat.pow_add]
 exact Nat.mul_lt_mul_of_pos_right h.2 (Nat.two_pow_pos S)
def rung (x : Nat) : Nat := if x = 0 then 0 else (1022 + x.log2) * 2 ^ 52 + x <<< (52 - x.log2)
theorem fl_bounds {x : Nat} (hx : x ≠ 0) (hl : x.log2 ≤ 52) : 2 ^ 52 ≤ x <<< (52 - x.log2) ∧ x <<< (52 - x.log2) < 2 ^ 53 := by
 have h := (Nat.log2_eq_iff hx).1 rfl
 rw [Nat.shiftLeft_eq]
 constructor
 ·
  calc 2 ^ 52 = 2 ^ x.log2 * 2 ^ (52 - x.log2) := by rw [← Nat.pow_add]; congr 1; omega
   _ ≤ _ := Nat.mul_le_mul_right _ h.1
 calc x * 2 ^ (52 - x.log2) < 2 ^ (x.log2 + 1) * 2 ^ (52 - x.log2) := Nat.mul_lt_mul_of_pos_right h.2 (Nat.two_pow_pos _)
  _ = 2 ^ 53 := by rw [← Nat.pow_add]; congr 1; omega
theorem fl_cut (n d : Nat) (hd : d ≤ n.log2 + 2) (q : Nat) (h : n = q <<< d) : Toward.even.cut false n d = q := by
 unfold Toward.cut
 have hm : min d (n.log2 + 2) = d := Nat.min_eq_left hd
 simp only [hm]
 have hg : (1 <<< d) = 2 ^ d := by rw [Nat.shiftLeft_eq, Nat.one_mul]
 have hp := Nat.two_pow_pos d
 rw [hg, h, Nat.shiftLeft_eq, Nat.mul_div_cancel _ hp, Nat.mul_mod_left]
 have h1 : decide (2 ^ d < 2 * 0) = false := by simp
 have h2 : (2 ^ d == 2 * 0) = false := by
  simp
 rw [h1, h2]
 simp
theorem fl_nearest {x : Nat} (hl : x.log2 ≤ 52) (S : Nat) (hS : 52 - x.log2 ≤ S) (_h1 : S ≤ 1074) : double.nearest false (x <<< S) (-(S : Int)) = rung x := by
 by_cases hx : x = 0
 ·
  subst hx
  simp [Format.nearest, rung, Format.word]
 have h0 : x <<< S ≠ 0 := by
  rw [Nat.shiftLeft_eq]
  exact Nat.mul_ne_zero hx (Nat.pos_iff_ne_zero.1 (Nat.two_pow_pos S))
 have hb := fl_bounds hx hl
 unfold Format.nearest rung
 rw [if_neg h0, if_neg hx]
 have hleast : double.leastPlace = -1074 := by decide
 have hfr : double.fractionBits = 52 := rfl
 have hbin : double.binade = 2 ^ 52 := rfl
 have hlast : max (-(S : Int) + ((x <<< S).log2 : Nat) - (double.fractionBits : Nat)) double.leastPlace = (x.log2 : Int) - 52 := by
  rw [fl_log2 hx, hfr, hleast]
  omega
 simp only [hlast]
 simp only [hleast, hbin]
 have e1 : (-(S : Int) - ((x.log2 : Int) - 52)).toNat = 0 := by omega
 have e2 : ((x.log2 : Int) - 52 - -(S : Int)).toNat = S - (52 - x.log2) := by omega
 have e3 : ((x.log2 : Int) - 52 - -1074).toNat = 1022 + x.log2 := by omega
 rw [e1, e2, e3, Nat.shiftLeft_zero]
 rw [fl_cut (x <<< S) (S - (52 - x.log2)) (by rw [fl_log2 hx]; omega) (x <<< (52 - x.log2)) (by
  rw [← Nat.shiftLeft_add]; congr 1; omega)]
 have hinf : double.infRung = 2047 * 2 ^ 52 := by decide
 rw [hinf, Nat.min_eq_left (by omega)]
 rfl
theorem fl_of {x : Nat} (hl : x.log2 ≤ 52) : floatOfInt .f64 (x : Int) = rung x := by
 have h := fl_nearest hl (52 - x.log2) (Nat.le_refl _) (by omega)
 show double.nearest (decide ((x : Int) < 0)) x 0 = rung x
 have hn : decide ((x : Int) < 0) = false := by simp
 rw [hn, ← h]
 by_cases hx : x = 0
 ·
  subst hx; simp [Format.nearest, Format.word]
 have h0 : x <<< (52 - x.log2) ≠ 0 := by
  have := (fl_bounds hx hl).1
  omega
 unfold Format.nearest
 rw [if_neg h0, if_neg hx]
 have hleast : double.leastPlace = -1074 := by decide
 have hfr : double.fractionBits = 52 := rfl
 have hlast : max (-((52 - x.log2 : Nat) : Int) + ((x <<< (52 - x.log2)).log2 : Nat) - (double.fractionBits : Nat)) double.leastPlace = (x.log2 : Int) - 52 := by
  rw [fl_log2 hx, hfr, hleast]
  omega
 have hlast0 : max ((0 : Int) + (x.log2 : Nat) - (double.fractionBits : Nat)) double.leastPlace = (x.log2 : Int) - 52 := by
  rw [hfr, hleast]
  omega
 simp only [hlast, hlast0]
 have e1 : (-((52 - x.log2 : Nat) : Int) - ((x.log2 : Int) - 52)).toNat = 0 := by omega
 have e2 : ((x.log2 : Int) - 52 - -((52 - x.log2 : Nat) : Int)).toNat = 0 := by omega
 have e3 : ((0 : Int) - ((x.log2 : Int) - 52)).toNat = 52 - x.log2 := by omega
 have e4 : ((x.log2 : Int) - 52 - 0).toNat = 0 := by omega
 rw [e1, e2, e3, e4, Nat.shiftLeft_zero]
theorem fl_read {x : Nat} (hx : x ≠ 0) (hl : x.log2 ≤ 52) : double.read (rung x) = .number false (x <<< (52 - x.log2)) (-((52 - x.log2 : Nat) : Int)) := by
 have hb := fl_bounds hx hl
 have hr : rung x = (1022 + x.log2) * 2 ^ 52 + x <<< (52 - x.log2) := by unfold rung; rw [if_neg hx]
 have hs : double.signWeight = 2 ^ 63 := rfl
 have hbin : double.binade = 2 ^ 52 := rfl
 have hinf : double.infRung = 2047 * 2 ^ 52 := by decide
 have hleast : double.leastPlace = -1074 := by decide
 have hm : rung x % 2 ^ 63 = rung x := Nat.mod_eq_of_lt (by omega)
 have hd : rung x / 2 ^ 63 = 0 := Nat.div_eq_of_lt (by omega)
 unfold Format.read
 simp only [hs, hbin, hinf, hleast, hm, hd]
 rw [if_neg (by omega), if_pos (by omega)]
 congr 1
 ·
  omega
 omega
theorem fl_int {x : Nat} (hl : x.log2 ≤ 52) (k : IntKind) (hk : k.min ≤ (x : Int) ∧ (x : Int) ≤ k.max) : floatToIntVal .f64 (rung x) k = some (x : Int) := by
 have ht : (FloatKind.f64.decode (rung x)).toInt .zero = some (x : Int) := by
  show (double.read (rung x)).toInt .zero = some (x : Int)
  by_cases hx : x = 0
  ·
   subst hx; decide
  rw [fl_read hx hl]
  unfold Datum.toInt Datum.integral
  have e1 : (-((52 - x.log2 : Nat) : Int)).toNat = 0 := by omega
  have e2 : (- -((52 - x.log2 : Nat) : Int)).toNat = 52 - x.log2 := by omega
  simp only [e1, e2, Nat.shiftLeft_zero]
  have hc : Toward.zero.cut false (x <<< (52 - x.log2)) (52 - x.log2) = x := by
   unfold Toward.cut
   have hm : min (52 - x.log2) ((x <<< (52 - x.log2)).log2 + 2) = 52 - x.log2 := Nat.min_eq_left (by rw [fl_log2 hx]; omega)
   simp only [hm]
   have hg : (1 <<< (52 - x.log2)) = 2 ^ (52 - x.log2) := by rw [Nat.shiftLeft_eq, Nat.one_mul]
   rw [hg, Nat.shiftLeft_eq, Nat.mul_div_cancel _ (Nat.two_pow_pos _)]
   rfl
  rw [hc]
  rfl
 unfold floatToIntVal
 rw [ht]
 simp only [hk.1, hk.2, and_self, if_true]
theorem fl_small {x : Nat} (h : x ≤ 1000000) : x.log2 ≤ 52 := by
 by_cases hx : x = 0
 ·
  subst hx; decide
 have := (Nat.log2_lt hx (k := 53)).2 (by omega)
 omega
end Go.Proofs.YtoanimpijfijgaaGreat

namespace Go.Proofs.YtoanimpijfijgaaGreat
open Go.RowKit
def fl (e : Int) : Nat := rung e.toNat
abbrev mom (e a : Int) : Value := .complex .f64 (fl e) (fl a)
theorem fl_ofInt {e : Int} (h : 0 ≤ e ∧ e ≤ 1000000) : floatOfInt .f64 e = fl e := by
 unfold fl
 have h1 : ((e.toNat : Nat) : Int) = e := by omega
 have := fl_of (fl_small (x := e.toNat) (by omega))
 rw [h1] at this
 exact this
theorem fl_toInt {e : Int} (h : 0 ≤ e ∧ e ≤ 1000000) (k : IntKind) (hk : k = .i64 ∨ k = .u64) : floatToIntVal .f64 (fl e) k = some e := by
 unfold fl
 have h1 : ((e.toNat : Nat) : Int) = e := by omega
 have := fl_int (fl_small (x := e.toNat) (by omega)) k (by
  rw [h1]
  rcases hk with rfl | rfl
  ·
   have a : IntKind.i64.min = -9223372036854775808 := by decide
   have b : IntKind.i64.max = 9223372036854775807 := by decide
   omega
  have a : IntKind.u64.min = 0 := by decide
  have b : IntKind.u64.max = 18446744073709551615 := by decide
  omega)
 rw [h1] at this
 exact this
theorem momentOfC (e a : Int) (he : 0 ≤ e ∧ e ≤ 1000000) (ha : 0 ≤ a ∧ a ≤ 1000000) (w : World) :
  Calls Tryz.prog 164 #[.int .i64 e, .int .u64 a] w fun r w' => r = .returned (mom e a) ∧ w' = w := by
 have f1 := fl_ofInt he
 have f2 := fl_ofInt ha
 go_enter Tryz.func164, Tryz.ntmps164
 go_wp2_with fail
 all_goals (go_ret; exact ⟨rfl, rfl⟩)
theorem timeC (e a : Int) (ha : 0 ≤ a ∧ a ≤ 1000000) (w : World) :
  Calls Tryz.prog 165 #[mom e a] w fun r w' => r = .returned (.int .u64 a) ∧ w' = w := by
 have hc : ∀ w, (convert 249 181 (.float .f64 (fl a))).run Tryz.prog w = .ok (.int .u64 a) w := fun w => run_convert_float_int w 249 181 .f64 .u64 _ _ (by rw [Tryz.underlying249]; rfl) Tryz.underlying181 (fl_toInt ha .u64 (Or.inr rfl))
 show Calls Tryz.prog 165 #[.complex .f64 (fl e) (fl a)] w _
 generalize fl e = re at *
 generalize fl a = ra at *
 go_enter Tryz.func165, Tryz.ntmps165
 go_wp2_with (simp only [hc])
 all_goals (go_ret; exact ⟨rfl, rfl⟩)
theorem wrap_u64 {a : Int} (h : 0 ≤ a ∧ a ≤ 1000000) : IntKind.u64.wrap a = a := by
 rw [IntKind.wrap_u64]
 omega
theorem clockOfC (t ev ep : Int) (v3 v4 v5 v6 : Value) (w : World) (he : 0 ≤ ep ∧ ep ≤ 999) (ht : 0 ≤ t ∧ t ≤ 9999) :
  Calls Tryz.prog 163 #[.agg #[.int .i64 t, .int .i64 ev, .int .i64 ep, v3, v4, v5, v6]] w fun e w' => e = .returned (mom ep t) ∧ Below w.heap.size w w' := by
 have nb : Below w.heap.size w (w.alloc (.cells #[.int .i64 t, .int .i64 ev, .int .i64 ep, v3, v4, v5, v6] 36)) := (Below.refl _ _).alloc (Nat.le_refl _) _
 have HX : Hid (Box 0 #[.int .i64 t, .int .i64 ev, .int .i64 ep, v3, v4, v5, v6] 36 (w.alloc (.cells #[.int .i64 t, .int .i64 ev, .int .i64 ep, v3, v4, v5, v6] 36)) w.heap.size) := newBox (Nat.zero_le _)
 have HB := yh nb
 have hw1 : IntKind.u64.wrap t = t := wrap_u64 (by omega)
 have HL := yh (momentOfC ep t (by omega) (by omega))
 clear nb he ht
 go_enter Tryz.func163, Tryz.ntmps163
 go_upto_region 1 with fail
 generalize w.alloc (.cells #[.int .i64 t, .int .i64 ev, .int .i64 ep, v3, v4, v5, v6] 36) = w1 at *
 have z0 := Box.at (uh HX) 0 _ rfl
 have z2 := Box.at (uh HX) 2 _ rfl
 simp only [ga, gb, gc] at z0 z2
 have zl := (uh HX).lt
 clear HX
 go_wp2_with fail
 refine (uh HL _).mono ?_
 rintro e w2 ⟨rfl, rfl⟩
 go_wp2_with fail
 go_ret
 exact ⟨rfl, uh HB⟩
theorem termOfC (n : DNode) (an : Option Addr) (dn : Nat) (w : World) (he : 0 ≤ n.epoch ∧ n.epoch ≤ 999) (ht : 0 ≤ n.lease ∧ n.lease ≤ 9999) :
  Calls Tryz.prog 239 #[.agg #[.int .i64 n.id, .bool n.up, .int .i64 n.epoch, .int .i64 n.lease, .slice an n.writes.length dn, .int .i64 n.sure, .int .i64 n.clean]] w fun e w' => e = .returned (mom n.epoch n.lease) ∧ Below w.heap.size w w' := by
 have nb : Below w.heap.size w (w.alloc (.cells #[.int .i64 n.id, .bool n.up, .int .i64 n.epoch, .int .i64 n.lease, .slice an n.writes.length dn, .int .i64 n.sure, .int .i64 n.clean] 84)) := (Below.refl _ _).alloc (Nat.le_refl _) _
 have HX : Hid (Box 0 #[.int .i64 n.id, .bool n.up, .int .i64 n.epoch, .int .i64 n.lease, .slice an n.writes.length dn, .int .i64 n.sure, .int .i64 n.clean] 84 (w.alloc (.cells #[.int .i64 n.id, .bool n.up, .int .i64 n.epoch, .int .i64 n.lease, .slice an n.writes.length dn, .int .i64 n.sure, .int .i64 n.clean] 84)) w.heap.size) := newBox (Nat.zero_le _)
 have HB := yh nb
 have hw1 : IntKind.u64.wrap n.lease = n.lease := wrap_u64 (by omega)
 have HL := yh (momentOfC n.epoch n.lease (by omega) (by omega))
 clear nb he ht
 go_enter Tryz.func239, Tryz.ntmps239
 go_upto_region 1 with fail
 generalize w.alloc (.cells #[.int .i64 n.id, .bool n.up, .int .i64 n.epoch, .int .i64 n.lease, .slice an n.writes.length dn, .int .i64 n.sure, .int .i64 n.clean] 84) = w1 at *
 have z2 := Box.at (uh HX) 2 _ rfl
 have z3 := Box.at (uh HX) 3 _ rfl
 simp only [ga, gb, gc] at z2 z3
 have zl := (uh HX).lt
 clear HX
 go_wp2_with fail
 refine (uh HL _).mono ?_
 rintro e w2 ⟨rfl, rfl⟩
 go_wp2_with fail
 go_ret
 exact ⟨rfl, uh HB⟩
theorem isLeasedC (n : DNode) (an : Option Addr) (dn : Nat) (c t : Int) (w : World) (he : 0 ≤ n.epoch ∧ n.epoch ≤ 999) (hl : 0 ≤ n.lease ∧ n.lease ≤ 9999) (ht : 0 ≤ t ∧ t ≤ 9999) :
  Calls Tryz.prog 172 #[.agg #[.int .i64 n.id, .bool n.up, .int .i64 n.epoch, .int .i64 n.lease, .slice an n.writes.length dn, .int .i64 n.sure, .int .i64 n.clean], mom c t] w fun e w' => e = .returned (.bool (decide (t ≤ n.lease))) ∧ Below w.heap.size w w' := by
 have nb : Below w.heap.size w (w.alloc (.cells #[.int .i64 n.id, .bool n.up, .int .i64 n.epoch, .int .i64 n.lease, .slice an n.writes.length dn, .int .i64 n.sure, .int .i64 n.clean] 84)) := (Below.refl _ _).alloc (Nat.le_refl _) _
 have HX : Hid (Box 0 #[.int .i64 n.id, .bool n.up, .int .i64 n.epoch, .int .i64 n.lease, .slice an n.writes.length dn, .int .i64 n.sure, .int .i64 n.clean] 84 (w.alloc (.cells #[.int .i64 n.id, .bool n.up, .int .i64 n.epoch, .int .i64 n.lease, .slice an n.writes.length dn, .int .i64 n.sure, .int .i64 n.clean] 84)) w.heap.size) := newBox (Nat.zero_le _)
 have HB := yh nb
 have HL := yh (fun w => termOfC n an dn w he hl)
 have HT := yh (timeC n.epoch n.lease (by omega))
 have HT2 := yh (timeC c t (by omega))
 show Calls Tryz.prog 172 #[.agg #[.int .i64 n.id, .bool n.up, .int .i64 n.epoch, .int .i64 n.lease, .slice an n.writes.length dn, .int .i64 n.sure, .int .i64 n.clean], .complex .f64 (fl c) (fl t)] w _
 have HT2' : Hid (∀ w, Calls Tryz.prog 165 #[.complex .f64 (fl c) (fl t)] w fun r w' => r = .returned (.int .u64 t) ∧ w' = w) := HT2
 clear nb he ht hl HT2
 generalize fl c = rc at *
 generalize fl t = rt at *
 go_enter Tryz.func172, Tryz.ntmps172
 go_upto_region 1 with fail
 generalize w.alloc (.cells #[.int .i64 n.id, .bool n.up, .int .i64 n.epoch, .int .i64 n.lease, .slice an n.writes.length dn, .int .i64 n.sure, .int .i64 n.clean] 84) = w1 at *
 have z0 := Box.at (uh HX) 0 _ rfl
 have z1 := Box.at (uh HX) 1 _ rfl
 have z2 := Box.at (uh HX) 2 _ rfl
 have z3 := Box.at (uh HX) 3 _ rfl
 have z4 := Box.at (uh HX) 4 _ rfl
 have z5 := Box.at (uh HX) 5 _ rfl
 have z6 := Box.at (uh HX) 6 _ rfl
 simp only [ga, gb, gc] at z0 z1 z2 z3 z4 z5 z6
 have zl := (uh HX).lt
 clear HX
 go_wp2_with fail
 refine (uh HL _).mono ?_
 rintro e w2 ⟨rfl, hb⟩
 replace HB := yh ((uh HB).trans (hb.mono (uh HB).size))
 clear hb z0 z1 z2 z3 z4 z5 z6 zl HL
 go_wp2_with fail
 refine (uh HT _).mono ?_
 rintro e w3 ⟨rfl, rfl⟩
 go_wp2_with fail
 refine (uh HT2' _).mono ?_
 rintro e w3 ⟨rfl, rfl⟩
 go_wp2_with fail
 go_ret
 exact ⟨rfl, uh HB⟩
end Go.Proofs.YtoanimpijfijgaaGreat
