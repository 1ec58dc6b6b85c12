/-
  Texts of this proof in one: SpecMsgF, SpecNetF, SpecWF, ImplNodeId, ImplEpoch, PartReads, ImplChainF, ImplUpTo, TickMap.
  Their conditions stand in their theorems.
-/
import Derived.Test.YtaadnjndioelbaaGreatChecked
import Derived.Test.YtaadnjndioelbaaGreatWf06
import Derived.Test.YtaadnjndioelbaaGreatWf05
import Derived.Test.YtaadnjndioelbaaGreatWf07
import Derived.Test.YtaadnjndioelbaaGreatWf01
import Derived.Deep.RegionHeld3
import Derived.Deep.CutRange
import Derived.Test.YtaadnjndioelbaaGreatWf00
import Derived.Test.YtaadnjndioelbaaGreatWf08
import Derived.Maps.OwnSet
import Derived.DeepKeys4
set_option maxRecDepth 100000
set_option maxHeartbeats 4000000
namespace Go.Proofs.YtaadnjndioelbaaGreat
open Go.RowKit
abbrev o92x1 : Oper := ⟨some 49, .move (.tmp 0), 118, "l11_net.go:10", #[], none⟩
abbrev o92x2 : Oper := ⟨some 50, .nilCheck (.tmp 49), 0, "l11_net.go:10", #[⟨0, .data⟩], none⟩
abbrev o92x3 : Oper := ⟨some 51, .fieldAddr 92 (.tmp 50) 0, 0, "l11_net.go:10", #[⟨1, .data⟩], none⟩
abbrev o92x4 : Oper := ⟨some 52, .load 2 (.tmp 51), 2, "l11_net.go:10", #[⟨2, .data⟩], none⟩
abbrev o92x5 : Oper := ⟨some 53, .call { callee := .value (.func 34), args := #[.tmp 52, .const (.int .i64 1), .const (.int .i64 2)], argTypes := #[2, 2, 2] }, 4, "l11_net.go:10", #[⟨3, .data⟩], none⟩
abbrev o92x6 : Oper := ⟨some 54, .unOp .not 4 (.tmp 53), 4, "l11_net.go:10", #[⟨4, .data⟩], none⟩
abbrev o92x7 : Oper := ⟨some 55, .move (.tmp 54), 4, "l11_net.go:10", #[⟨5, .data⟩, ⟨4, .chain⟩], none⟩
abbrev o92x8 : Oper := ⟨some 56, .move (.tmp 0), 118, "l11_net.go:10", #[⟨6, .guard⟩], some (6, false)⟩
abbrev o92x9 : Oper := ⟨some 57, .nilCheck (.tmp 56), 0, "l11_net.go:10", #[⟨7, .data⟩, ⟨6, .guard⟩], some (6, false)⟩
abbrev o92x10 : Oper := ⟨some 58, .fieldAddr 92 (.tmp 57) 2, 0, "l11_net.go:10", #[⟨8, .data⟩, ⟨6, .guard⟩], some (6, false)⟩
abbrev o92x11 : Oper := ⟨some 59, .load 2 (.tmp 58), 2, "l11_net.go:10", #[⟨9, .data⟩, ⟨6, .guard⟩], some (6, false)⟩
abbrev o92x12 : Oper := ⟨some 60, .move (.tmp 0), 118, "l11_net.go:10", #[⟨6, .guard⟩], some (6, false)⟩
abbrev o92x13 : Oper := ⟨some 61, .nilCheck (.tmp 60), 0, "l11_net.go:10", #[⟨11, .data⟩, ⟨6, .guard⟩], some (6, false)⟩
abbrev o92x14 : Oper := ⟨some 62, .fieldAddr 92 (.tmp 61) 3, 0, "l11_net.go:10", #[⟨12, .data⟩, ⟨6, .guard⟩], some (6, false)⟩
abbrev o92x15 : Oper := ⟨some 63, .load 2 (.tmp 62), 2, "l11_net.go:10", #[⟨13, .data⟩, ⟨6, .guard⟩], some (6, false)⟩
abbrev o92x16 : Oper := ⟨some 64, .binOp .eql 2 (.tmp 59) (.tmp 63) 2, 4, "l11_net.go:10", #[⟨10, .data⟩, ⟨14, .data⟩, ⟨6, .guard⟩], some (6, false)⟩
abbrev o92x17 : Oper := ⟨some 65, .pick (.tmp 55) (.const (.bool true)) (.tmp 64), 4, "l11_net.go:10", #[⟨6, .data⟩, ⟨15, .data⟩], none⟩
abbrev o92x18 : Oper := ⟨some 66, .move (.tmp 65), 4, "l11_net.go:10", #[⟨16, .data⟩, ⟨6, .chain⟩], none⟩
abbrev o92x19 : Oper := ⟨some 67, .move (.tmp 3), 4, "l11_net.go:10", #[⟨17, .guard⟩], some (17, false)⟩
abbrev o92x20 : Oper := ⟨some 68, .move (.tmp 67), 4, "l11_net.go:10", #[⟨18, .data⟩, ⟨17, .chain⟩, ⟨17, .guard⟩], some (17, false)⟩
abbrev o92x21 : Oper := ⟨some 69, .move (.tmp 4), 4, "l11_net.go:10", #[⟨19, .guard⟩], some (19, true)⟩
abbrev o92x22 : Oper := ⟨some 70, .unOp .not 4 (.tmp 69), 4, "l11_net.go:10", #[⟨20, .data⟩, ⟨19, .guard⟩], some (19, true)⟩
abbrev o92x23 : Oper := ⟨some 71, .pick (.tmp 68) (.tmp 70) (.const (.bool false)), 4, "l11_net.go:10", #[⟨19, .data⟩, ⟨21, .data⟩, ⟨17, .guard⟩], some (17, false)⟩
abbrev o92x24 : Oper := ⟨some 72, .pick (.tmp 66) (.const (.bool true)) (.tmp 71), 4, "l11_net.go:10", #[⟨17, .data⟩, ⟨22, .data⟩], none⟩
def MsgAt (w : World) (b o : Nat) (x : DMsg) (v : Value) : Prop :=
 w.cell? ⟨b, o, none⟩ = some (.int .i64 x.kind) ∧ w.cell? ⟨b, o + 1, none⟩ = some (.int .i64 x.epoch) ∧ w.cell? ⟨b, o + 2, none⟩ = some (.int .i64 x.src) ∧ w.cell? ⟨b, o + 3, none⟩ = some (.int .i64 x.dst) ∧ w.cell? ⟨b, o + 4, none⟩ = some (.int .i64 x.index) ∧ w.cell? ⟨b, o + 5, none⟩ = some (.int .i64 x.write.kind) ∧ w.cell? ⟨b, o + 5 + 1, none⟩ = some (.int .i64 x.write.id) ∧ w.cell? ⟨b, o + 5 + 2, none⟩ = some (v) ∧ w.cell? ⟨b, o + 5 + 3, none⟩ = some (.int .i64 x.write.session) ∧ w.cell? ⟨b, o + 5 + 4, none⟩ = some (.int .i64 x.write.seq)
theorem MsgAt.later {w w' : World} {b o : Nat} {x : DMsg} {v : Value} (h : MsgAt w b o x v) (hb : Below w.heap.size w w') : MsgAt w' b o x v := by
 obtain ⟨c0, c1, c2, c3, c4, c5, c6, c7, c8, c9⟩ := h
 have hl := World.block_lt_of_cell? _ _ c0
 exact ⟨(hb.cell (p := ⟨b, o, none⟩) hl).trans c0, (hb.cell (p := ⟨b, o + 1, none⟩) hl).trans c1, (hb.cell (p := ⟨b, o + 2, none⟩) hl).trans c2, (hb.cell (p := ⟨b, o + 3, none⟩) hl).trans c3, (hb.cell (p := ⟨b, o + 4, none⟩) hl).trans c4, (hb.cell (p := ⟨b, o + 5, none⟩) hl).trans c5, (hb.cell (p := ⟨b, o + 5 + 1, none⟩) hl).trans c6, (hb.cell (p := ⟨b, o + 5 + 2, none⟩) hl).trans c7, (hb.cell (p := ⟨b, o + 5 + 3, none⟩) hl).trans c8, (hb.cell (p := ⟨b, o + 5 + 4, none⟩) hl).trans c9⟩
theorem noW_f0 {y : DWrite} (h : (y.kind == 0) = false) : decide (noW y) = false := by
 rw [decide_eq_false_iff_not]; intro q; rw [q.1] at h; simp at h
theorem noW_f1 {y : DWrite} (h : (y.id == 0) = false) : decide (noW y) = false := by
 rw [decide_eq_false_iff_not]; intro q; rw [q.2.1] at h; simp at h
theorem noW_f2 {y : DWrite} (h : (y.session == 0) = false) : decide (noW y) = false := by
 rw [decide_eq_false_iff_not]; intro q; rw [q.2.2.1] at h; simp at h
theorem noW_f3 {y : DWrite} (h : (y.seq == 0) = false) : decide (noW y) = false := by
 rw [decide_eq_false_iff_not]; intro q; rw [q.2.2.2.1] at h; simp at h
theorem noW_f4 {y : DWrite} (h : ((y.vec.length : Int) == 0) = false) : decide (noW y) = false := by
 rw [decide_eq_false_iff_not]; intro q; rw [q.2.2.2.2] at h; simp at h
theorem noW_t {y : DWrite} (h0 : (y.kind == 0) = true) (h1 : (y.id == 0) = true) (h2 : (y.session == 0) = true) (h3 : (y.seq == 0) = true) (h4 : ((y.vec.length : Int) == 0) = true) : decide (noW y) = true := by
 rw [decide_eq_true_iff]
 simp only [beq_iff_eq] at h0 h1 h2 h3 h4
 exact ⟨h0, h1, h2, h3, by omega⟩
theorem mf_kind {x : DMsg} (h : (decide (1 ≤ x.kind) && decide (x.kind ≤ 2)) = false) : msgFault x = 1 := by
 rw [msgFault, if_pos (Or.inl (by simpa using h))]
theorem mf_self {x : DMsg} (h : (x.src == x.dst) = true) : msgFault x = 1 := by
 rw [msgFault, if_pos (Or.inr (Or.inl (beq_iff_eq.1 h)))]
theorem mf_ack {x : DMsg} (h : (x.kind == 2) = true) (h2 : decide (noW x.write) = false) : msgFault x = 1 := by
 rw [msgFault, if_pos (Or.inr (Or.inr ⟨beq_iff_eq.1 h, decide_eq_false_iff_not.1 h2⟩))]
def mfRest (x : DMsg) : Int := if ¬ (1 ≤ x.epoch ∧ x.epoch ≤ 999) ∨ ¬ (1 ≤ x.src ∧ x.src ≤ 5) ∨ ¬ (1 ≤ x.dst ∧ x.dst ≤ 5) ∨ ¬ (0 ≤ x.index ∧ x.index ≤ 40) ∨ (x.kind ≠ 2 ∧ x.index = 0) then 3
 else if x.kind = 2 then 0 else wF x.write
theorem mf_rest1 {x : DMsg} (h : (decide (1 ≤ x.kind) && decide (x.kind ≤ 2)) = true) (h1 : (x.src == x.dst) = false) (h2 : (x.kind == 2) = false) : msgFault x = mfRest x := by
 rw [msgFault, if_neg, mfRest]
 simp at h h1 h2
 rintro (q | q | q)
 ·
  exact q h
 ·
  exact h1 q
 exact h2 q.1
theorem mf_rest2 {x : DMsg} (h : (decide (1 ≤ x.kind) && decide (x.kind ≤ 2)) = true) (h1 : (x.src == x.dst) = false) (h2 : decide (noW x.write) = true) : msgFault x = mfRest x := by
 rw [msgFault, if_neg, mfRest]
 simp at h h1 h2
 rintro (q | q | q)
 ·
  exact q h
 ·
  exact h1 q
 exact q.2 h2
theorem mr_epoch {x : DMsg} (h : (decide (1 ≤ x.epoch) && decide (x.epoch ≤ 999)) = false) : mfRest x = 3 := by
 rw [mfRest, if_pos (Or.inl (by simpa using h))]
theorem mr_src {x : DMsg} (h : (decide (1 ≤ x.src) && decide (x.src ≤ 5)) = false) : mfRest x = 3 := by
 rw [mfRest, if_pos (Or.inr (Or.inl (by simpa using h)))]
theorem mr_dst {x : DMsg} (h : (decide (1 ≤ x.dst) && decide (x.dst ≤ 5)) = false) : mfRest x = 3 := by
 rw [mfRest, if_pos (Or.inr (Or.inr (Or.inl (by simpa using h))))]
theorem mr_index {x : DMsg} (h : (decide (0 ≤ x.index) && decide (x.index ≤ 40)) = false) : mfRest x = 3 := by
 rw [mfRest, if_pos (Or.inr (Or.inr (Or.inr (Or.inl (by simpa using h)))))]
theorem mr_zero {x : DMsg} (h : (x.kind == 2) = false) (h2 : (x.index == 0) = true) : mfRest x = 3 := by
 rw [mfRest, if_pos (Or.inr (Or.inr (Or.inr (Or.inr ⟨by simpa using h, by simpa using h2⟩))))]
theorem mr_ok {x : DMsg} (h0 : (decide (1 ≤ x.epoch) && decide (x.epoch ≤ 999)) = true) (h1 : (decide (1 ≤ x.src) && decide (x.src ≤ 5)) = true) (h2 : (decide (1 ≤ x.dst) && decide (x.dst ≤ 5)) = true) (h3 : (decide (0 ≤ x.index) && decide (x.index ≤ 40)) = true) (h4 : (x.kind == 2) = true ∨ (x.index == 0) = false) : mfRest x = if x.kind = 2 then 0 else wF x.write := by
 rw [mfRest, if_neg]
 simp at h0 h1 h2 h3 h4
 rintro (q | q | q | q | q)
 ·
  exact q h0
 ·
  exact q h1
 ·
  exact q h2
 ·
  exact q h3
 rcases h4 with h4 | h4
 ·
  exact q.1 h4
 exact h4 q.2
theorem write_vec {w : World} {y : DWrite} {a : Option Addr} {d : Nat} (h : Lay.tWrite.Reads w [.int .i64 y.kind, .int .i64 y.id, .slice a y.vec.length d, .int .i64 y.session, .int .i64 y.seq] y) : (Lay.sl Lay.int).Reads w [.slice a y.vec.length d] y.vec := by
 obtain ⟨a2, d2, e, R⟩ := open_Write h
 simp only [List.cons.injEq, Value.slice.injEq, and_true, true_and] at e
 obtain ⟨rfl, rfl⟩ := e
 exact R
theorem l11MsgC (b o : Nat) (a : Option Addr) (d : Nat) (x : DMsg) (w : World) (hM : MsgAt w b o x (.slice a x.write.vec.length d)) (R : (Lay.sl Lay.int).Reads w [.slice a x.write.vec.length d] x.write.vec) :
  Calls Tryz.prog 65 #[.pointer (some ⟨b, o, none⟩)] w fun e w' => e = .returned (.int .i64 (msgFault x)) ∧ Below w.heap.size w w' := by
 have hbig := R.big
 have H := yh R
 have HM := yh hM
 obtain ⟨c0, c1, c2, c3, c4, c5, c6, c7, c8, c9⟩ := hM
 have hb := World.block_lt_of_cell? _ _ c0
 clear R
 go_enter Tryz.func65, Tryz.ntmps65
 go_upto_region 2 with fail
 go_cut [4] from 10 to 48 (fun s4 wx => s4 = .bool (decide (noW x.write)) ∧ wx = w)
 case first =>
  cases e0 : (x.write.kind == 0)
  ·
   have HF := yh (noW_f0 e0)
   go_wp2_with fail
   go_meet
   exact ⟨by rw [uh HF], rfl⟩
  cases e1 : (x.write.id == 0)
  ·
   have HF := yh (noW_f1 e1)
   go_wp2_with fail
   go_meet
   exact ⟨by rw [uh HF], rfl⟩
  cases e2 : (x.write.session == 0)
  ·
   have HF := yh (noW_f2 e2)
   go_wp2_with fail
   go_meet
   exact ⟨by rw [uh HF], rfl⟩
  cases e3 : (x.write.seq == 0)
  ·
   have HF := yh (noW_f3 e3)
   go_wp2_with fail
   go_meet
   exact ⟨by rw [uh HF], rfl⟩
  cases e4 : ((x.write.vec.length : Int) == 0)
  ·
   have HF := yh (noW_f4 e4)
   go_wp2_with fail
   go_meet
   exact ⟨by rw [uh HF], rfl⟩
  have HF := yh (noW_t e0 e1 e2 e3 e4)
  go_wp2_with fail
  go_meet
  exact ⟨by rw [uh HF], rfl⟩
 case rest =>
  obtain ⟨rfl, hwc⟩ := hcut
  subst hwc
  cases d1 : (decide (1 ≤ x.kind) && decide (x.kind ≤ 2))
  ·
   have HF := yh (mf_kind d1)
   go_upto_region 3 with fail
   refine wp_region_noPanic ?_
   refine wp_region_held_drew (S := fun w' => Below wc.heap.size wc w') (by kernel_rfl) (Below.refl _ _).drew (fun zq => ?_)
   generalize wc.drew = wD at zq ⊢
   refine tkH (i := 0) (oi := o92x1) (v := ?va0_1) rfl ?ha0_1 zq ?ra0_1
   case ha0_1 => intro _ _; go_simp; try with_reducible rfl
   refine tkH (i := 1) (oi := o92x2) (v := ?va1_2) rfl ?ha1_2 zq ?ra1_2
   case ha1_2 => intro _ _; go_simp; try with_reducible rfl
   refine tkH (i := 2) (oi := o92x3) (v := ?va2_3) rfl ?ha2_3 zq ?ra2_3
   case ha2_3 => intro _ _; go_simp; try with_reducible rfl
   refine tkH (i := 3) (oi := o92x4) (v := ?va3_4) rfl ?ha3_4 zq ?ra3_4
   case ha3_4 =>
    intro wS hSw
    have q0 := (hSw.cell (p := ⟨b, o, none⟩) hb).trans c0
    clear hSw
    (try dsimp only at hSw)
    go_simp
    try with_reducible rfl
   refine rdH (i := 4) (oi := o92x5) rfl (fun K hK => ?_)
   go_simp
   go_at_call 34
   refine (inC x.kind 1 2 _).mono ?_
   rintro e w1 ⟨rfl, h1⟩
   subst w1
   rw [d1]
   try go_wp2_with fail
   refine hK.out _ _ zq (fun zq => ?_)
   clear hK K
   try simp only [Act.put, pz, py, px]
   refine tkH (i := 5) (oi := o92x6) (v := ?va5_5) rfl ?ha5_5 zq ?ra5_5
   case ha5_5 => intro _ _; go_simp; try with_reducible rfl
   refine tkH (i := 6) (oi := o92x7) (v := ?va6_6) rfl ?ha6_6 zq ?ra6_6
   case ha6_6 => intro _ _; go_simp; try with_reducible rfl
   refine skH (i := 7) (oi := o92x8) rfl zq ?_
   refine skH (i := 8) (oi := o92x9) rfl zq ?_
   refine skH (i := 9) (oi := o92x10) rfl zq ?_
   refine skH (i := 10) (oi := o92x11) rfl zq ?_
   refine skH (i := 11) (oi := o92x12) rfl zq ?_
   refine skH (i := 12) (oi := o92x13) rfl zq ?_
   refine skH (i := 13) (oi := o92x14) rfl zq ?_
   refine skH (i := 14) (oi := o92x15) rfl zq ?_
   refine skH (i := 15) (oi := o92x16) rfl zq ?_
   refine tkH (i := 16) (oi := o92x17) (v := ?va16_16) rfl ?ha16_16 zq ?ra16_16
   case ha16_16 => intro _ _; go_simp; try with_reducible rfl
   refine tkH (i := 17) (oi := o92x18) (v := ?va17_17) rfl ?ha17_17 zq ?ra17_17
   case ha17_17 => intro _ _; go_simp; try with_reducible rfl
   refine skH (i := 18) (oi := o92x19) rfl zq ?_
   refine skH (i := 19) (oi := o92x20) rfl zq ?_
   refine skH (i := 20) (oi := o92x21) rfl zq ?_
   refine skH (i := 21) (oi := o92x22) rfl zq ?_
   refine skH (i := 22) (oi := o92x23) rfl zq ?_
   refine tkH (i := 23) (oi := o92x24) (v := ?va23_23) rfl ?ha23_23 zq ?ra23_23
   case ha23_23 => intro _ _; go_simp; try with_reducible rfl
   refine wpAnyH_done (by kernel_rfl) ?_ _
   refine NoPanic.normal ?_
   have HB9 := yh zq
   clear zq
   go_wp2_with fail
   go_ret
   exact ⟨by rw [uh HF]; rfl, uh HB9⟩
  cases e1 : (x.src == x.dst)
  ·
   cases e2 : (x.kind == 2)
   ·
    have HRS := yh (mf_rest1 d1 e1 e2)
    go_upto_region 3 with fail
    refine wp_region_noPanic ?_
    refine wp_region_held_drew (S := fun w' => Below wc.heap.size wc w') (by kernel_rfl) (Below.refl _ _).drew (fun zq => ?_)
    generalize wc.drew = wD at zq ⊢
    refine tkH (i := 0) (oi := o92x1) (v := ?vc0_1) rfl ?hc0_1 zq ?rc0_1
    case hc0_1 => intro _ _; go_simp; try with_reducible rfl
    refine tkH (i := 1) (oi := o92x2) (v := ?vc1_2) rfl ?hc1_2 zq ?rc1_2
    case hc1_2 => intro _ _; go_simp; try with_reducible rfl
    refine tkH (i := 2) (oi := o92x3) (v := ?vc2_3) rfl ?hc2_3 zq ?rc2_3
    case hc2_3 => intro _ _; go_simp; try with_reducible rfl
    refine tkH (i := 3) (oi := o92x4) (v := ?vc3_4) rfl ?hc3_4 zq ?rc3_4
    case hc3_4 =>
     intro wS hSw
     have q0 := (hSw.cell (p := ⟨b, o, none⟩) hb).trans c0
     clear hSw
     (try dsimp only at hSw)
     go_simp
     try with_reducible rfl
    refine rdH (i := 4) (oi := o92x5) rfl (fun K hK => ?_)
    go_simp
    go_at_call 34
    refine (inC x.kind 1 2 _).mono ?_
    rintro e w1 ⟨rfl, h1⟩
    subst w1
    rw [d1]
    try go_wp2_with fail
    refine hK.out _ _ zq (fun zq => ?_)
    clear hK K
    try simp only [Act.put, pz, py, px]
    refine tkH (i := 5) (oi := o92x6) (v := ?vc5_5) rfl ?hc5_5 zq ?rc5_5
    case hc5_5 => intro _ _; go_simp; try with_reducible rfl
    refine tkH (i := 6) (oi := o92x7) (v := ?vc6_6) rfl ?hc6_6 zq ?rc6_6
    case hc6_6 => intro _ _; go_simp; try with_reducible rfl
    refine tkH (i := 7) (oi := o92x8) (v := ?vc7_7) rfl ?hc7_7 zq ?rc7_7
    case hc7_7 => intro _ _; go_simp; try with_reducible rfl
    refine tkH (i := 8) (oi := o92x9) (v := ?vc8_8) rfl ?hc8_8 zq ?rc8_8
    case hc8_8 => intro _ _; go_simp; try with_reducible rfl
    refine tkH (i := 9) (oi := o92x10) (v := ?vc9_9) rfl ?hc9_9 zq ?rc9_9
    case hc9_9 => intro _ _; go_simp; try with_reducible rfl
    refine tkH (i := 10) (oi := o92x11) (v := ?vc10_10) rfl ?hc10_10 zq ?rc10_10
    case hc10_10 =>
     intro wS hSw
     have q2 := (hSw.cell (p := ⟨b, o + 2, none⟩) hb).trans c2
     clear hSw
     (try dsimp only at hSw)
     go_simp
     try with_reducible rfl
    refine tkH (i := 11) (oi := o92x12) (v := ?vc11_11) rfl ?hc11_11 zq ?rc11_11
    case hc11_11 => intro _ _; go_simp; try with_reducible rfl
    refine tkH (i := 12) (oi := o92x13) (v := ?vc12_12) rfl ?hc12_12 zq ?rc12_12
    case hc12_12 => intro _ _; go_simp; try with_reducible rfl
    refine tkH (i := 13) (oi := o92x14) (v := ?vc13_13) rfl ?hc13_13 zq ?rc13_13
    case hc13_13 => intro _ _; go_simp; try with_reducible rfl
    refine tkH (i := 14) (oi := o92x15) (v := ?vc14_14) rfl ?hc14_14 zq ?rc14_14
    case hc14_14 =>
     intro wS hSw
     have q3 := (hSw.cell (p := ⟨b, o + 3, none⟩) hb).trans c3
     clear hSw
     (try dsimp only at hSw)
     go_simp
     try with_reducible rfl
    refine tkH (i := 15) (oi := o92x16) (v := ?vc15_15) rfl ?hc15_15 zq ?rc15_15
    case hc15_15 => intro _ _; go_simp; try with_reducible rfl
    refine tkH (i := 16) (oi := o92x17) (v := ?vc16_16) rfl ?hc16_16 zq ?rc16_16
    case hc16_16 => intro _ _; go_simp; try with_reducible rfl
    refine tkH (i := 17) (oi := o92x18) (v := ?vc17_17) rfl ?hc17_17 zq ?rc17_17
    case hc17_17 => intro _ _; go_simp; try with_reducible rfl
    refine tkH (i := 18) (oi := o92x19) (v := ?vc18_18) rfl ?hc18_18 zq ?rc18_18
    case hc18_18 => intro _ _; go_simp; try with_reducible rfl
    refine tkH (i := 19) (oi := o92x20) (v := ?vc19_19) rfl ?hc19_19 zq ?rc19_19
    case hc19_19 => intro _ _; go_simp; try with_reducible rfl
    refine skH (i := 20) (oi := o92x21) rfl zq ?_
    refine skH (i := 21) (oi := o92x22) rfl zq ?_
    refine tkH (i := 22) (oi := o92x23) (v := ?vc22_22) rfl ?hc22_22 zq ?rc22_22
    case hc22_22 => intro _ _; go_simp; try with_reducible rfl
    refine tkH (i := 23) (oi := o92x24) (v := ?vc23_23) rfl ?hc23_23 zq ?rc23_23
    case hc23_23 => intro _ _; go_simp; try with_reducible rfl
    refine wpAnyH_done (by kernel_rfl) ?_ _
    refine NoPanic.normal ?_
    have HB9 := zq
    clear zq
    have c0 : wD.cell? ⟨b, o, none⟩ = some (.int .i64 x.kind) := (HB9.cell (p := ⟨b, o, none⟩) hb).trans c0
    have c1 : wD.cell? ⟨b, o + 1, none⟩ = some (.int .i64 x.epoch) := (HB9.cell (p := ⟨b, o + 1, none⟩) hb).trans c1
    have c2 : wD.cell? ⟨b, o + 2, none⟩ = some (.int .i64 x.src) := (HB9.cell (p := ⟨b, o + 2, none⟩) hb).trans c2
    have c3 : wD.cell? ⟨b, o + 3, none⟩ = some (.int .i64 x.dst) := (HB9.cell (p := ⟨b, o + 3, none⟩) hb).trans c3
    have c4 : wD.cell? ⟨b, o + 4, none⟩ = some (.int .i64 x.index) := (HB9.cell (p := ⟨b, o + 4, none⟩) hb).trans c4
    have c5 : wD.cell? ⟨b, o + 5, none⟩ = some (.int .i64 x.write.kind) := (HB9.cell (p := ⟨b, o + 5, none⟩) hb).trans c5
    have c6 : wD.cell? ⟨b, o + 5 + 1, none⟩ = some (.int .i64 x.write.id) := (HB9.cell (p := ⟨b, o + 5 + 1, none⟩) hb).trans c6
    have c7 : wD.cell? ⟨b, o + 5 + 2, none⟩ = some (.slice a x.write.vec.length d) := (HB9.cell (p := ⟨b, o + 5 + 2, none⟩) hb).trans c7
    have c8 : wD.cell? ⟨b, o + 5 + 3, none⟩ = some (.int .i64 x.write.session) := (HB9.cell (p := ⟨b, o + 5 + 3, none⟩) hb).trans c8
    have c9 : wD.cell? ⟨b, o + 5 + 4, none⟩ = some (.int .i64 x.write.seq) := (HB9.cell (p := ⟨b, o + 5 + 4, none⟩) hb).trans c9
    have HWD := yh ((uh H).later HB9)
    replace hb : b < wD.heap.size := Nat.lt_of_lt_of_le hb HB9.size
    replace HB9 := yh HB9
    go_wp2_with fail
    refine (inC x.epoch 1 999 wD).mono ?_
    rintro e w1 ⟨rfl, h1⟩
    subst w1
    cases d10 : (decide (1 ≤ x.epoch) && decide (x.epoch ≤ 999))
    ·
     have HF := yh ((uh HRS).trans (mr_epoch d10))
     clear d10
     go_wp2_with fail
     go_ret
     exact ⟨by rw [uh HF]; rfl, uh HB9⟩
    skip
    go_wp2_with fail
    refine (node10C x.src wD).mono ?_
    rintro e w1 ⟨rfl, h1⟩
    subst w1
    cases d12 : (decide (1 ≤ x.src) && decide (x.src ≤ 5))
    ·
     have HF := yh ((uh HRS).trans (mr_src d12))
     clear d12
     go_wp2_with fail
     go_ret
     exact ⟨by rw [uh HF]; rfl, uh HB9⟩
    skip
    go_wp2_with fail
    refine (node10C x.dst wD).mono ?_
    rintro e w1 ⟨rfl, h1⟩
    subst w1
    cases d14 : (decide (1 ≤ x.dst) && decide (x.dst ≤ 5))
    ·
     have HF := yh ((uh HRS).trans (mr_dst d14))
     clear d14
     go_wp2_with fail
     go_ret
     exact ⟨by rw [uh HF]; rfl, uh HB9⟩
    skip
    go_wp2_with fail
    refine (inC x.index 0 40 wD).mono ?_
    rintro e w1 ⟨rfl, h1⟩
    subst w1
    cases d16 : (decide (0 ≤ x.index) && decide (x.index ≤ 40))
    ·
     have HF := yh ((uh HRS).trans (mr_index d16))
     clear d16
     go_wp2_with fail
     go_ret
     exact ⟨by rw [uh HF]; rfl, uh HB9⟩
    skip
    cases e5 : (x.index == 0)
    ·
     have HF : Hid (msgFault x = wF x.write) := (uh HRS).trans ((mr_ok d10 d12 d14 d16 (Or.inr e5)).trans (if_neg (by simpa using e2)))
     clear d10 d12 d14 d16
     go_wp2_with fail
     refine (l3FaultO b (o + 5) x.write.kind x.write.id _ x.write.session x.write.seq x.write.vec wD ⟨c5, c6, c7, c8, c9⟩ (Lay.ints_reads (uh HWD))).mono ?_
     rintro e w1 ⟨rfl, h1⟩
     subst w1
     go_wp2_with fail
     go_ret
     exact ⟨by rw [uh HF]; rfl, uh HB9⟩
    have HF : Hid (msgFault x = 3) := (uh HRS).trans (mr_zero e2 e5)
    clear d10 d12 d14 d16
    go_wp2_with fail
    go_ret
    exact ⟨by rw [uh HF]; rfl, uh HB9⟩
   cases e3 : decide (noW x.write)
   ·
    have HF := yh (mf_ack e2 e3)
    go_upto_region 3 with fail
    refine wp_region_noPanic ?_
    refine wp_region_held_drew (S := fun w' => Below wc.heap.size wc w') (by kernel_rfl) (Below.refl _ _).drew (fun zq => ?_)
    generalize wc.drew = wD at zq ⊢
    refine tkH (i := 0) (oi := o92x1) (v := ?vd0_1) rfl ?hd0_1 zq ?rd0_1
    case hd0_1 => intro _ _; go_simp; try with_reducible rfl
    refine tkH (i := 1) (oi := o92x2) (v := ?vd1_2) rfl ?hd1_2 zq ?rd1_2
    case hd1_2 => intro _ _; go_simp; try with_reducible rfl
    refine tkH (i := 2) (oi := o92x3) (v := ?vd2_3) rfl ?hd2_3 zq ?rd2_3
    case hd2_3 => intro _ _; go_simp; try with_reducible rfl
    refine tkH (i := 3) (oi := o92x4) (v := ?vd3_4) rfl ?hd3_4 zq ?rd3_4
    case hd3_4 =>
     intro wS hSw
     have q0 := (hSw.cell (p := ⟨b, o, none⟩) hb).trans c0
     clear hSw
     (try dsimp only at hSw)
     go_simp
     try with_reducible rfl
    refine rdH (i := 4) (oi := o92x5) rfl (fun K hK => ?_)
    go_simp
    go_at_call 34
    refine (inC x.kind 1 2 _).mono ?_
    rintro e w1 ⟨rfl, h1⟩
    subst w1
    rw [d1]
    try go_wp2_with fail
    refine hK.out _ _ zq (fun zq => ?_)
    clear hK K
    try simp only [Act.put, pz, py, px]
    refine tkH (i := 5) (oi := o92x6) (v := ?vd5_5) rfl ?hd5_5 zq ?rd5_5
    case hd5_5 => intro _ _; go_simp; try with_reducible rfl
    refine tkH (i := 6) (oi := o92x7) (v := ?vd6_6) rfl ?hd6_6 zq ?rd6_6
    case hd6_6 => intro _ _; go_simp; try with_reducible rfl
    refine tkH (i := 7) (oi := o92x8) (v := ?vd7_7) rfl ?hd7_7 zq ?rd7_7
    case hd7_7 => intro _ _; go_simp; try with_reducible rfl
    refine tkH (i := 8) (oi := o92x9) (v := ?vd8_8) rfl ?hd8_8 zq ?rd8_8
    case hd8_8 => intro _ _; go_simp; try with_reducible rfl
    refine tkH (i := 9) (oi := o92x10) (v := ?vd9_9) rfl ?hd9_9 zq ?rd9_9
    case hd9_9 => intro _ _; go_simp; try with_reducible rfl
    refine tkH (i := 10) (oi := o92x11) (v := ?vd10_10) rfl ?hd10_10 zq ?rd10_10
    case hd10_10 =>
     intro wS hSw
     have q2 := (hSw.cell (p := ⟨b, o + 2, none⟩) hb).trans c2
     clear hSw
     (try dsimp only at hSw)
     go_simp
     try with_reducible rfl
    refine tkH (i := 11) (oi := o92x12) (v := ?vd11_11) rfl ?hd11_11 zq ?rd11_11
    case hd11_11 => intro _ _; go_simp; try with_reducible rfl
    refine tkH (i := 12) (oi := o92x13) (v := ?vd12_12) rfl ?hd12_12 zq ?rd12_12
    case hd12_12 => intro _ _; go_simp; try with_reducible rfl
    refine tkH (i := 13) (oi := o92x14) (v := ?vd13_13) rfl ?hd13_13 zq ?rd13_13
    case hd13_13 => intro _ _; go_simp; try with_reducible rfl
    refine tkH (i := 14) (oi := o92x15) (v := ?vd14_14) rfl ?hd14_14 zq ?rd14_14
    case hd14_14 =>
     intro wS hSw
     have q3 := (hSw.cell (p := ⟨b, o + 3, none⟩) hb).trans c3
     clear hSw
     (try dsimp only at hSw)
     go_simp
     try with_reducible rfl
    refine tkH (i := 15) (oi := o92x16) (v := ?vd15_15) rfl ?hd15_15 zq ?rd15_15
    case hd15_15 => intro _ _; go_simp; try with_reducible rfl
    refine tkH (i := 16) (oi := o92x17) (v := ?vd16_16) rfl ?hd16_16 zq ?rd16_16
    case hd16_16 => intro _ _; go_simp; try with_reducible rfl
    refine tkH (i := 17) (oi := o92x18) (v := ?vd17_17) rfl ?hd17_17 zq ?rd17_17
    case hd17_17 => intro _ _; go_simp; try with_reducible rfl
    refine tkH (i := 18) (oi := o92x19) (v := ?vd18_18) rfl ?hd18_18 zq ?rd18_18
    case hd18_18 => intro _ _; go_simp; try with_reducible rfl
    refine tkH (i := 19) (oi := o92x20) (v := ?vd19_19) rfl ?hd19_19 zq ?rd19_19
    case hd19_19 => intro _ _; go_simp; try with_reducible rfl
    refine tkH (i := 20) (oi := o92x21) (v := ?vd20_20) rfl ?hd20_20 zq ?rd20_20
    case hd20_20 => intro _ _; go_simp; try with_reducible rfl
    refine tkH (i := 21) (oi := o92x22) (v := ?vd21_21) rfl ?hd21_21 zq ?rd21_21
    case hd21_21 => intro _ _; go_simp; try with_reducible rfl
    refine tkH (i := 22) (oi := o92x23) (v := ?vd22_22) rfl ?hd22_22 zq ?rd22_22
    case hd22_22 => intro _ _; go_simp; try with_reducible rfl
    refine tkH (i := 23) (oi := o92x24) (v := ?vd23_23) rfl ?hd23_23 zq ?rd23_23
    case hd23_23 => intro _ _; go_simp; try with_reducible rfl
    refine wpAnyH_done (by kernel_rfl) ?_ _
    refine NoPanic.normal ?_
    have HB9 := yh zq
    clear zq
    go_wp2_with fail
    go_ret
    exact ⟨by rw [uh HF]; rfl, uh HB9⟩
   have HRS := yh (mf_rest2 d1 e1 e3)
   go_upto_region 3 with fail
   refine wp_region_noPanic ?_
   refine wp_region_held_drew (S := fun w' => Below wc.heap.size wc w') (by kernel_rfl) (Below.refl _ _).drew (fun zq => ?_)
   generalize wc.drew = wD at zq ⊢
   refine tkH (i := 0) (oi := o92x1) (v := ?ve0_1) rfl ?he0_1 zq ?re0_1
   case he0_1 => intro _ _; go_simp; try with_reducible rfl
   refine tkH (i := 1) (oi := o92x2) (v := ?ve1_2) rfl ?he1_2 zq ?re1_2
   case he1_2 => intro _ _; go_simp; try with_reducible rfl
   refine tkH (i := 2) (oi := o92x3) (v := ?ve2_3) rfl ?he2_3 zq ?re2_3
   case he2_3 => intro _ _; go_simp; try with_reducible rfl
   refine tkH (i := 3) (oi := o92x4) (v := ?ve3_4) rfl ?he3_4 zq ?re3_4
   case he3_4 =>
    intro wS hSw
    have q0 := (hSw.cell (p := ⟨b, o, none⟩) hb).trans c0
    clear hSw
    (try dsimp only at hSw)
    go_simp
    try with_reducible rfl
   refine rdH (i := 4) (oi := o92x5) rfl (fun K hK => ?_)
   go_simp
   go_at_call 34
   refine (inC x.kind 1 2 _).mono ?_
   rintro e w1 ⟨rfl, h1⟩
   subst w1
   rw [d1]
   try go_wp2_with fail
   refine hK.out _ _ zq (fun zq => ?_)
   clear hK K
   try simp only [Act.put, pz, py, px]
   refine tkH (i := 5) (oi := o92x6) (v := ?ve5_5) rfl ?he5_5 zq ?re5_5
   case he5_5 => intro _ _; go_simp; try with_reducible rfl
   refine tkH (i := 6) (oi := o92x7) (v := ?ve6_6) rfl ?he6_6 zq ?re6_6
   case he6_6 => intro _ _; go_simp; try with_reducible rfl
   refine tkH (i := 7) (oi := o92x8) (v := ?ve7_7) rfl ?he7_7 zq ?re7_7
   case he7_7 => intro _ _; go_simp; try with_reducible rfl
   refine tkH (i := 8) (oi := o92x9) (v := ?ve8_8) rfl ?he8_8 zq ?re8_8
   case he8_8 => intro _ _; go_simp; try with_reducible rfl
   refine tkH (i := 9) (oi := o92x10) (v := ?ve9_9) rfl ?he9_9 zq ?re9_9
   case he9_9 => intro _ _; go_simp; try with_reducible rfl
   refine tkH (i := 10) (oi := o92x11) (v := ?ve10_10) rfl ?he10_10 zq ?re10_10
   case he10_10 =>
    intro wS hSw
    have q2 := (hSw.cell (p := ⟨b, o + 2, none⟩) hb).trans c2
    clear hSw
    (try dsimp only at hSw)
    go_simp
    try with_reducible rfl
   refine tkH (i := 11) (oi := o92x12) (v := ?ve11_11) rfl ?he11_11 zq ?re11_11
   case he11_11 => intro _ _; go_simp; try with_reducible rfl
   refine tkH (i := 12) (oi := o92x13) (v := ?ve12_12) rfl ?he12_12 zq ?re12_12
   case he12_12 => intro _ _; go_simp; try with_reducible rfl
   refine tkH (i := 13) (oi := o92x14) (v := ?ve13_13) rfl ?he13_13 zq ?re13_13
   case he13_13 => intro _ _; go_simp; try with_reducible rfl
   refine tkH (i := 14) (oi := o92x15) (v := ?ve14_14) rfl ?he14_14 zq ?re14_14
   case he14_14 =>
    intro wS hSw
    have q3 := (hSw.cell (p := ⟨b, o + 3, none⟩) hb).trans c3
    clear hSw
    (try dsimp only at hSw)
    go_simp
    try with_reducible rfl
   refine tkH (i := 15) (oi := o92x16) (v := ?ve15_15) rfl ?he15_15 zq ?re15_15
   case he15_15 => intro _ _; go_simp; try with_reducible rfl
   refine tkH (i := 16) (oi := o92x17) (v := ?ve16_16) rfl ?he16_16 zq ?re16_16
   case he16_16 => intro _ _; go_simp; try with_reducible rfl
   refine tkH (i := 17) (oi := o92x18) (v := ?ve17_17) rfl ?he17_17 zq ?re17_17
   case he17_17 => intro _ _; go_simp; try with_reducible rfl
   refine tkH (i := 18) (oi := o92x19) (v := ?ve18_18) rfl ?he18_18 zq ?re18_18
   case he18_18 => intro _ _; go_simp; try with_reducible rfl
   refine tkH (i := 19) (oi := o92x20) (v := ?ve19_19) rfl ?he19_19 zq ?re19_19
   case he19_19 => intro _ _; go_simp; try with_reducible rfl
   refine tkH (i := 20) (oi := o92x21) (v := ?ve20_20) rfl ?he20_20 zq ?re20_20
   case he20_20 => intro _ _; go_simp; try with_reducible rfl
   refine tkH (i := 21) (oi := o92x22) (v := ?ve21_21) rfl ?he21_21 zq ?re21_21
   case he21_21 => intro _ _; go_simp; try with_reducible rfl
   refine tkH (i := 22) (oi := o92x23) (v := ?ve22_22) rfl ?he22_22 zq ?re22_22
   case he22_22 => intro _ _; go_simp; try with_reducible rfl
   refine tkH (i := 23) (oi := o92x24) (v := ?ve23_23) rfl ?he23_23 zq ?re23_23
   case he23_23 => intro _ _; go_simp; try with_reducible rfl
   refine wpAnyH_done (by kernel_rfl) ?_ _
   refine NoPanic.normal ?_
   have HB9 := zq
   clear zq
   have c0 : wD.cell? ⟨b, o, none⟩ = some (.int .i64 x.kind) := (HB9.cell (p := ⟨b, o, none⟩) hb).trans c0
   have c1 : wD.cell? ⟨b, o + 1, none⟩ = some (.int .i64 x.epoch) := (HB9.cell (p := ⟨b, o + 1, none⟩) hb).trans c1
   have c2 : wD.cell? ⟨b, o + 2, none⟩ = some (.int .i64 x.src) := (HB9.cell (p := ⟨b, o + 2, none⟩) hb).trans c2
   have c3 : wD.cell? ⟨b, o + 3, none⟩ = some (.int .i64 x.dst) := (HB9.cell (p := ⟨b, o + 3, none⟩) hb).trans c3
   have c4 : wD.cell? ⟨b, o + 4, none⟩ = some (.int .i64 x.index) := (HB9.cell (p := ⟨b, o + 4, none⟩) hb).trans c4
   have c5 : wD.cell? ⟨b, o + 5, none⟩ = some (.int .i64 x.write.kind) := (HB9.cell (p := ⟨b, o + 5, none⟩) hb).trans c5
   have c6 : wD.cell? ⟨b, o + 5 + 1, none⟩ = some (.int .i64 x.write.id) := (HB9.cell (p := ⟨b, o + 5 + 1, none⟩) hb).trans c6
   have c7 : wD.cell? ⟨b, o + 5 + 2, none⟩ = some (.slice a x.write.vec.length d) := (HB9.cell (p := ⟨b, o + 5 + 2, none⟩) hb).trans c7
   have c8 : wD.cell? ⟨b, o + 5 + 3, none⟩ = some (.int .i64 x.write.session) := (HB9.cell (p := ⟨b, o + 5 + 3, none⟩) hb).trans c8
   have c9 : wD.cell? ⟨b, o + 5 + 4, none⟩ = some (.int .i64 x.write.seq) := (HB9.cell (p := ⟨b, o + 5 + 4, none⟩) hb).trans c9
   have HWD := yh ((uh H).later HB9)
   replace hb : b < wD.heap.size := Nat.lt_of_lt_of_le hb HB9.size
   replace HB9 := yh HB9
   go_wp2_with fail
   refine (inC x.epoch 1 999 wD).mono ?_
   rintro e w1 ⟨rfl, h1⟩
   subst w1
   cases d12 : (decide (1 ≤ x.epoch) && decide (x.epoch ≤ 999))
   ·
    have HF := yh ((uh HRS).trans (mr_epoch d12))
    clear d12
    go_wp2_with fail
    go_ret
    exact ⟨by rw [uh HF]; rfl, uh HB9⟩
   skip
   go_wp2_with fail
   refine (node10C x.src wD).mono ?_
   rintro e w1 ⟨rfl, h1⟩
   subst w1
   cases d14 : (decide (1 ≤ x.src) && decide (x.src ≤ 5))
   ·
    have HF := yh ((uh HRS).trans (mr_src d14))
    clear d14
    go_wp2_with fail
    go_ret
    exact ⟨by rw [uh HF]; rfl, uh HB9⟩
   skip
   go_wp2_with fail
   refine (node10C x.dst wD).mono ?_
   rintro e w1 ⟨rfl, h1⟩
   subst w1
   cases d16 : (decide (1 ≤ x.dst) && decide (x.dst ≤ 5))
   ·
    have HF := yh ((uh HRS).trans (mr_dst d16))
    clear d16
    go_wp2_with fail
    go_ret
    exact ⟨by rw [uh HF]; rfl, uh HB9⟩
   skip
   go_wp2_with fail
   refine (inC x.index 0 40 wD).mono ?_
   rintro e w1 ⟨rfl, h1⟩
   subst w1
   cases d18 : (decide (0 ≤ x.index) && decide (x.index ≤ 40))
   ·
    have HF := yh ((uh HRS).trans (mr_index d18))
    clear d18
    go_wp2_with fail
    go_ret
    exact ⟨by rw [uh HF]; rfl, uh HB9⟩
   skip
   have HF : Hid (msgFault x = 0) := (uh HRS).trans ((mr_ok d12 d14 d16 d18 (Or.inl e2)).trans (if_pos (beq_iff_eq.1 e2)))
   clear d12 d14 d16 d18
   go_wp2_with fail
   go_ret
   exact ⟨by rw [uh HF]; rfl, uh HB9⟩
  have HF := yh (mf_self e1)
  go_upto_region 3 with fail
  refine wp_region_noPanic ?_
  refine wp_region_held_drew (S := fun w' => Below wc.heap.size wc w') (by kernel_rfl) (Below.refl _ _).drew (fun zq => ?_)
  generalize wc.drew = wD at zq ⊢
  refine tkH (i := 0) (oi := o92x1) (v := ?vb0_1) rfl ?hb0_1 zq ?rb0_1
  case hb0_1 => intro _ _; go_simp; try with_reducible rfl
  refine tkH (i := 1) (oi := o92x2) (v := ?vb1_2) rfl ?hb1_2 zq ?rb1_2
  case hb1_2 => intro _ _; go_simp; try with_reducible rfl
  refine tkH (i := 2) (oi := o92x3) (v := ?vb2_3) rfl ?hb2_3 zq ?rb2_3
  case hb2_3 => intro _ _; go_simp; try with_reducible rfl
  refine tkH (i := 3) (oi := o92x4) (v := ?vb3_4) rfl ?hb3_4 zq ?rb3_4
  case hb3_4 =>
   intro wS hSw
   have q0 := (hSw.cell (p := ⟨b, o, none⟩) hb).trans c0
   clear hSw
   (try dsimp only at hSw)
   go_simp
   try with_reducible rfl
  refine rdH (i := 4) (oi := o92x5) rfl (fun K hK => ?_)
  go_simp
  go_at_call 34
  refine (inC x.kind 1 2 _).mono ?_
  rintro e w1 ⟨rfl, h1⟩
  subst w1
  rw [d1]
  try go_wp2_with fail
  refine hK.out _ _ zq (fun zq => ?_)
  clear hK K
  try simp only [Act.put, pz, py, px]
  refine tkH (i := 5) (oi := o92x6) (v := ?vb5_5) rfl ?hb5_5 zq ?rb5_5
  case hb5_5 => intro _ _; go_simp; try with_reducible rfl
  refine tkH (i := 6) (oi := o92x7) (v := ?vb6_6) rfl ?hb6_6 zq ?rb6_6
  case hb6_6 => intro _ _; go_simp; try with_reducible rfl
  refine tkH (i := 7) (oi := o92x8) (v := ?vb7_7) rfl ?hb7_7 zq ?rb7_7
  case hb7_7 => intro _ _; go_simp; try with_reducible rfl
  refine tkH (i := 8) (oi := o92x9) (v := ?vb8_8) rfl ?hb8_8 zq ?rb8_8
  case hb8_8 => intro _ _; go_simp; try with_reducible rfl
  refine tkH (i := 9) (oi := o92x10) (v := ?vb9_9) rfl ?hb9_9 zq ?rb9_9
  case hb9_9 => intro _ _; go_simp; try with_reducible rfl
  refine tkH (i := 10) (oi := o92x11) (v := ?vb10_10) rfl ?hb10_10 zq ?rb10_10
  case hb10_10 =>
   intro wS hSw
   have q2 := (hSw.cell (p := ⟨b, o + 2, none⟩) hb).trans c2
   clear hSw
   (try dsimp only at hSw)
   go_simp
   try with_reducible rfl
  refine tkH (i := 11) (oi := o92x12) (v := ?vb11_11) rfl ?hb11_11 zq ?rb11_11
  case hb11_11 => intro _ _; go_simp; try with_reducible rfl
  refine tkH (i := 12) (oi := o92x13) (v := ?vb12_12) rfl ?hb12_12 zq ?rb12_12
  case hb12_12 => intro _ _; go_simp; try with_reducible rfl
  refine tkH (i := 13) (oi := o92x14) (v := ?vb13_13) rfl ?hb13_13 zq ?rb13_13
  case hb13_13 => intro _ _; go_simp; try with_reducible rfl
  refine tkH (i := 14) (oi := o92x15) (v := ?vb14_14) rfl ?hb14_14 zq ?rb14_14
  case hb14_14 =>
   intro wS hSw
   have q3 := (hSw.cell (p := ⟨b, o + 3, none⟩) hb).trans c3
   clear hSw
   (try dsimp only at hSw)
   go_simp
   try with_reducible rfl
  refine tkH (i := 15) (oi := o92x16) (v := ?vb15_15) rfl ?hb15_15 zq ?rb15_15
  case hb15_15 => intro _ _; go_simp; try with_reducible rfl
  refine tkH (i := 16) (oi := o92x17) (v := ?vb16_16) rfl ?hb16_16 zq ?rb16_16
  case hb16_16 => intro _ _; go_simp; try with_reducible rfl
  refine tkH (i := 17) (oi := o92x18) (v := ?vb17_17) rfl ?hb17_17 zq ?rb17_17
  case hb17_17 => intro _ _; go_simp; try with_reducible rfl
  refine skH (i := 18) (oi := o92x19) rfl zq ?_
  refine skH (i := 19) (oi := o92x20) rfl zq ?_
  refine skH (i := 20) (oi := o92x21) rfl zq ?_
  refine skH (i := 21) (oi := o92x22) rfl zq ?_
  refine skH (i := 22) (oi := o92x23) rfl zq ?_
  refine tkH (i := 23) (oi := o92x24) (v := ?vb23_23) rfl ?hb23_23 zq ?rb23_23
  case hb23_23 => intro _ _; go_simp; try with_reducible rfl
  refine wpAnyH_done (by kernel_rfl) ?_ _
  refine NoPanic.normal ?_
  have HB9 := yh zq
  clear zq
  go_wp2_with fail
  go_ret
  exact ⟨by rw [uh HF]; rfl, uh HB9⟩
theorem msg_row {w : World} {b off cap : Nat} {xs : List DMsg} (h : (Lay.sl Lay.tMsg).Reads w [.slice (some ⟨b, off, none⟩) xs.length cap] xs) {k : Nat} (hk : k < xs.length) : ∃ a d, MsgAt w b (off + k * 10) xs[k] (.slice a xs[k].write.vec.length d) ∧ (Lay.sl Lay.int).Reads w [.slice a xs[k].write.vec.length d] xs[k].write.vec := by
 obtain ⟨row, hc, hr⟩ := Lay.row_at h hk
 obtain ⟨a, d, rfl, R⟩ := open_Msg hr
 exact ⟨a, d, ⟨hc 0 (by decide), hc 1 (by decide), hc 2 (by decide), hc 3 (by decide), hc 4 (by decide), hc 5 (by decide), hc 6 (by decide), hc 7 (by decide), hc 8 (by decide), hc 9 (by decide)⟩, write_vec R⟩
theorem nf_many {xs : List DMsg} (h : 40 < xs.length) : netFault xs = 2 := by rw [netFault, if_pos h]
theorem nf_few {xs : List DMsg} (h : ¬ 40 < xs.length) : netFault xs = msgsFrom xs := by rw [netFault, if_neg h]
theorem l11FaultC (v : Value) (xs : List DMsg) (w : World) (h : (Lay.sl Lay.tMsg).Reads w [v] xs) :
  Calls Tryz.prog 37 #[v] w fun e w' => e = .returned (.int .i64 (netFault xs)) ∧ Below w.heap.size w w' := by
 obtain ⟨ao, cap, rfl⟩ := open_sl h
 have hbig := h.big
 have H := yh h
 clear h
 by_cases h40 : 40 < xs.length
 ·
  have HF := yh (nf_many h40)
  have hd : decide ((40 : Int) < (xs.length : Int)) = true := by simp; omega
  go_enter Tryz.func37, Tryz.ntmps37
  go_wp2_with fail
  go_ret
  exact ⟨by rw [uh HF]; rfl, Below.refl _ _⟩
 have HF := yh (nf_few h40)
 have hd : decide ((40 : Int) < (xs.length : Int)) = false := by simp; omega
 go_enter Tryz.func37, Tryz.ntmps37
 go_wp2_with fail
 clear hd
 go_loopw [3] (fun i wr => ∃ k : Nat, k ≤ xs.length ∧ i = .int .i64 k ∧ (∀ j (hj : j < xs.length), j < k → msgFault xs[j] = 0) ∧ Below w.heap.size w wr) (fun i _ => xs.length - (intOf i).toNat)
 case atStart => exact ⟨0, Nat.zero_le _, rfl, fun j _ hj => by omega, Below.refl _ _⟩
 case round =>
  obtain ⟨k, hk, rfl, hz, hB⟩ := hrel
  by_cases hlt : k < xs.length
  ·
   obtain ⟨b, off, rfl, hbl⟩ := Lay.sl_addr (uh H) (by omega)
   obtain ⟨a, d, hM, R⟩ := msg_row ((uh H).later hB) hlt
   have HL := yh (l11MsgC b (off + k * 10) a d xs[k] wr hM R)
   have hbr : b < wr.heap.size := Nat.lt_of_lt_of_le hbl hB.size
   have hdl : decide ((k : Int) < (xs.length : Int)) = true := by simp; omega
   have HB := yh hB
   have HAT : Hid (msgFault xs[k] ≠ 0 → msgsFrom xs = msgFault xs[k]) := fun q => msgsFrom_at hlt (fun j hj => hz j (by omega) hj) q
   have HZ2 : Hid (msgFault xs[k] = 0 → ∀ j (hj : j < xs.length), j < k + 1 → msgFault xs[j] = 0) := by
    intro h0 j hj hjk
    by_cases hjk2 : j < k
    ·
     exact hz j hj hjk2
    obtain rfl : j = k := by omega
    exact h0
   clear hz hM R hB
   generalize msgFault xs[k] = f at *
   go_wp2_with fail
   refine (uh HL).mono ?_
   rintro e w2 ⟨rfl, hb⟩
   have HB2 := yh ((uh HB).trans (hb.mono (uh HB).size))
   clear hb HL HB
   by_cases hf : f = 0
   ·
    have HZ3 := yh (uh HZ2 hf)
    subst hf
    clear HZ2 HAT
    go_wp2_with fail
    go_roundw
    case rel => exact ⟨k + 1, by omega, by go_num, uh HZ3, uh HB2⟩
    case measure => simp [intOf]; omega
   have HA := yh ((uh HF).trans (uh HAT hf))
   have hd : (f != 0) = true := by simpa using hf
   clear HZ2 HAT hf
   go_wp2_with fail
   go_ret
   exact ⟨by rw [uh HA]; rfl, uh HB2⟩
  obtain rfl : k = xs.length := by omega
  have hdl : decide ((xs.length : Int) < (xs.length : Int)) = false := by simp
  have HA := yh ((uh HF).trans (msgsFrom_all fun x hx => by obtain ⟨j, hj, rfl⟩ := List.getElem_of_mem hx; exact hz j hj hj))
  have HB := yh hB
  clear hB hz
  go_wp2_with fail
  go_ret
  exact ⟨by rw [uh HA]; rfl, uh HB⟩
theorem l12FaultC (a3 : Option Addr) (d3 : Nat) (a4 : Option Addr) (d4 : Nat) (a5 : Option Addr) (d5 : Nat) (a6 : Option Addr) (d6 : Nat) (x : DWorld) (xb : Nat) (w : World) (hX : Box 0 #[.int .i64 x.now, .int .i64 x.events, .int .i64 x.chain.epoch, .slice a3 x.chain.ids.length d3, .slice a4 x.nodes.length d4, .slice a5 x.msgs.length d5, .slice a6 x.history.length d6] 37 w xb) (h : Lay.tWorld.Reads w [.int .i64 x.now, .int .i64 x.events, .int .i64 x.chain.epoch, .slice a3 x.chain.ids.length d3, .slice a4 x.nodes.length d4, .slice a5 x.msgs.length d5, .slice a6 x.history.length d6] x) :
  Calls Tryz.prog 13 #[.pointer (some ⟨xb, 0, none⟩)] w fun e w' => e = .returned (.int .i64 (worldFault x)) ∧ Below w.heap.size w w' := by
 have HX := yh hX
 have HR := yh h
 have HB := yh (Below.refl w.heap.size w)
 have HP : Hid (worldFault x = if (decide (0 ≤ x.now) && decide (x.now ≤ 9000)) = false ∨ (decide (0 ≤ x.events) && decide (x.events ≤ 9999)) = false then 3 else if chainFault x.chain ≠ 0 then chainFault x.chain
  else if x.nodes.length < 1 ∨ 5 < x.nodes.length then 2 else if nodesFault x ≠ 0 then nodesFault x else if netFault x.msgs ≠ 0 then netFault x.msgs
  else if 60 < x.history.length then 2 else if (x.history.drop 0).all (entryB x) = true then 0 else 3) := by
  have e1 : (¬ (0 ≤ x.now ∧ x.now ≤ 9000) ∨ ¬ (0 ≤ x.events ∧ x.events ≤ 9999)) ↔ ((decide (0 ≤ x.now) && decide (x.now ≤ 9000)) = false ∨ (decide (0 ≤ x.events) && decide (x.events ≤ 9999)) = false) := by
   simp only [Bool.and_eq_false_iff, decide_eq_false_iff_not]
   omega
  show worldFault x = _
  unfold worldFault
  by_cases h1 : (decide (0 ≤ x.now) && decide (x.now ≤ 9000)) = false ∨ (decide (0 ≤ x.events) && decide (x.events ≤ 9999)) = false
  ·
   rw [if_pos (e1.2 h1), if_pos h1]
  rw [if_neg (fun q => h1 (e1.1 q)), if_neg h1]
  rfl
 clear h hX
 generalize worldFault x = r at *
 have z0 := Box.at (uh HX) 0 _ rfl
 have z1 := Box.at (uh HX) 1 _ rfl
 have z2 := Box.at (uh HX) 2 _ rfl
 have z3 := Box.at (uh HX) 3 _ rfl
 have z4 := Box.at (uh HX) 4 _ rfl
 have z5 := Box.at (uh HX) 5 _ rfl
 have z6 := Box.at (uh HX) 6 _ rfl
 simp only [ga, gb, gc] at z0 z1 z2 z3 z4 z5 z6
 have xl := (uh HX).lt
 go_enter Tryz.func13, Tryz.ntmps13
 go_wp2_with fail
 refine (inC x.now 0 9000 w).mono ?_
 rintro e w2 ⟨rfl, h2⟩
 subst w2
 cases d1 : (decide (0 ≤ x.now) && decide (x.now ≤ 9000))
 ·
  replace HP := yh ((uh HP).trans (if_pos (Or.inl d1)))
  clear d1
  go_wp2_with fail
  go_ret
  exact ⟨by rw [uh HP]; rfl, uh HB⟩
 go_wp2_with fail
 refine (inC x.events 0 9999 w).mono ?_
 rintro e w2 ⟨rfl, h2⟩
 subst w2
 cases d2 : (decide (0 ≤ x.events) && decide (x.events ≤ 9999))
 ·
  replace HP := yh ((uh HP).trans (if_pos (Or.inr d2)))
  clear d1 d2
  go_wp2_with fail
  go_ret
  exact ⟨by rw [uh HP]; rfl, uh HB⟩
 replace HP := yh ((uh HP).trans (if_neg (by rw [d1, d2]; simp)))
 clear d1 d2
 go_wp2_with fail
 obtain ⟨_, _, _, _, _, _, _, _, hq, RC, -, -, -⟩ := open_World (uh HR)
 simp only [List.cons.injEq, Value.slice.injEq, and_true, true_and] at hq
 obtain ⟨⟨rfl, rfl⟩, ⟨rfl, rfl⟩, ⟨rfl, rfl⟩, rfl, rfl⟩ := hq
 obtain ⟨_, _, hq, RI⟩ := open_Chain RC
 simp only [List.cons.injEq, Value.slice.injEq, and_true, true_and] at hq
 obtain ⟨rfl, rfl⟩ := hq
 refine (l10FaultO xb 2 _ _ x.chain w ⟨(uh HX).at 2 _ rfl, (uh HX).at 3 _ rfl⟩ RI).mono ?_
 rintro e w2 ⟨rfl, h2⟩
 subst w2
 clear RC RI
 by_cases d3 : chainFault x.chain ≠ 0
 ·
  have hd : (chainFault x.chain != 0) = true := by simpa using d3
  replace HP := yh ((uh HP).trans (if_pos d3))
  clear d3
  generalize chainFault x.chain = c at *
  go_wp2_with fail
  go_ret
  exact ⟨by rw [uh HP]; rfl, uh HB⟩
 replace HP := yh ((uh HP).trans (if_neg d3))
 have hd : chainFault x.chain = 0 := by simpa using d3
 clear d3
 rw [hd]
 clear hd
 have hbn := (show x.nodes.length ≤ 9223372036854775807 from by
  obtain ⟨_, _, _, _, _, _, _, _, hq, -, RN, -, -⟩ := open_World (uh HR)
  exact RN.big)
 by_cases d4 : x.nodes.length < 1 ∨ 5 < x.nodes.length
 ·
  replace HP := yh ((uh HP).trans (if_pos d4))
  by_cases d5 : x.nodes.length < 1
  ·
   have hd : decide ((x.nodes.length : Int) < 1) = true := by simp; omega
   clear d4 d5
   go_wp2_with fail
   go_ret
   exact ⟨by rw [uh HP]; rfl, uh HB⟩
  have hd : decide ((x.nodes.length : Int) < 1) = false := by simp; omega
  have hd2 : decide ((5 : Int) < (x.nodes.length : Int)) = true := by simp; omega
  clear d4 d5
  go_wp2_with fail
  go_ret
  exact ⟨by rw [uh HP]; rfl, uh HB⟩
 replace HP := yh ((uh HP).trans (if_neg d4))
 have hd : decide ((x.nodes.length : Int) < 1) = false := by simp; omega
 have hd2 : decide ((5 : Int) < (x.nodes.length : Int)) = false := by simp; omega
 have hn5 : x.nodes.length ≤ 5 := by omega
 clear d4
 go_wp2_with fail
 refine (l12NodesC _ _ _ _ _ _ _ _ x xb w (uh HX) (uh HR)).mono ?_
 rintro e w4 ⟨rfl, hb⟩
 clear xl hn5 z0 z1 z2 z3 z4 z5 z6
 replace HX := yh ((uh HX).keep hb)
 replace HR := yh ((uh HR).later hb)
 replace HB := yh ((uh HB).trans (hb.mono (uh HB).size))
 clear hb
 have z0 := Box.at (uh HX) 0 _ rfl
 have z1 := Box.at (uh HX) 1 _ rfl
 have z2 := Box.at (uh HX) 2 _ rfl
 have z3 := Box.at (uh HX) 3 _ rfl
 have z4 := Box.at (uh HX) 4 _ rfl
 have z5 := Box.at (uh HX) 5 _ rfl
 have z6 := Box.at (uh HX) 6 _ rfl
 simp only [ga, gb, gc] at z0 z1 z2 z3 z4 z5 z6
 have xl := (uh HX).lt
 by_cases d3 : nodesFault x ≠ 0
 ·
  have hd : (nodesFault x != 0) = true := by simpa using d3
  replace HP := yh ((uh HP).trans (if_pos d3))
  clear d3
  generalize nodesFault x = c at *
  go_wp2_with fail
  go_ret
  exact ⟨by rw [uh HP]; rfl, uh HB⟩
 replace HP := yh ((uh HP).trans (if_neg d3))
 have hd : nodesFault x = 0 := by simpa using d3
 clear d3
 rw [hd]
 clear hd
 go_wp2_with fail
 obtain ⟨_, _, _, _, _, _, _, _, hq, -, -, RM, -⟩ := open_World (uh HR)
 simp only [List.cons.injEq, Value.slice.injEq, and_true, true_and] at hq
 obtain ⟨⟨rfl, rfl⟩, ⟨rfl, rfl⟩, ⟨rfl, rfl⟩, rfl, rfl⟩ := hq
 refine (l11FaultC _ x.msgs w4 RM).mono ?_
 rintro e w5 ⟨rfl, hb⟩
 clear RM xl z0 z1 z2 z3 z4 z5 z6
 replace HX := yh ((uh HX).keep hb)
 replace HR := yh ((uh HR).later hb)
 replace HB := yh ((uh HB).trans (hb.mono (uh HB).size))
 clear hb
 have z0 := Box.at (uh HX) 0 _ rfl
 have z1 := Box.at (uh HX) 1 _ rfl
 have z2 := Box.at (uh HX) 2 _ rfl
 have z3 := Box.at (uh HX) 3 _ rfl
 have z4 := Box.at (uh HX) 4 _ rfl
 have z5 := Box.at (uh HX) 5 _ rfl
 have z6 := Box.at (uh HX) 6 _ rfl
 simp only [ga, gb, gc] at z0 z1 z2 z3 z4 z5 z6
 have xl := (uh HX).lt
 by_cases d3 : netFault x.msgs ≠ 0
 ·
  have hd : (netFault x.msgs != 0) = true := by simpa using d3
  replace HP := yh ((uh HP).trans (if_pos d3))
  clear d3
  generalize netFault x.msgs = c at *
  go_wp2_with fail
  go_ret
  exact ⟨by rw [uh HP]; rfl, uh HB⟩
 replace HP := yh ((uh HP).trans (if_neg d3))
 have hd : netFault x.msgs = 0 := by simpa using d3
 clear d3
 rw [hd]
 clear hd
 obtain ⟨_, _, _, _, _, _, _, _, hq, -, -, -, RE⟩ := open_World (uh HR)
 simp only [List.cons.injEq, Value.slice.injEq, and_true, true_and] at hq
 obtain ⟨⟨rfl, rfl⟩, ⟨rfl, rfl⟩, ⟨rfl, rfl⟩, rfl, rfl⟩ := hq
 have HE := yh RE
 have hbig := RE.big
 clear RE
 by_cases d4 : 60 < x.history.length
 ·
  replace HP := yh ((uh HP).trans (if_pos d4))
  have hd : decide ((60 : Int) < (x.history.length : Int)) = true := by simp; omega
  clear d4
  go_wp2_with fail
  go_ret
  exact ⟨by rw [uh HP]; rfl, uh HB⟩
 replace HP := yh ((uh HP).trans (if_neg d4))
 have hd : decide ((60 : Int) < (x.history.length : Int)) = false := by simp; omega
 clear d4
 go_wp2_with fail
 clear z0 z1 z2 z3 z4 z5 z6 xl hd
 go_loopw [6] (fun i wr => ∃ k : Nat, k ≤ x.history.length ∧ i = .int .i64 k ∧ r = (if (x.history.drop k).all (entryB x) = true then 0 else 3) ∧ Below w5.heap.size w5 wr) (fun i _ => x.history.length - (intOf i).toNat)
 case atStart => exact ⟨0, Nat.zero_le _, rfl, uh HP, Below.refl _ _⟩
 case round =>
  obtain ⟨k, hk, rfl, hF, hB⟩ := hrel
  clear HP
  have hX2 := (uh HX).keep hB
  have y6 := Box.at hX2 6 _ rfl
  simp only [ga, gb, gc] at y6
  have xl := hX2.lt
  have HB3 := yh ((uh HB).trans (hB.mono (uh HB).size))
  by_cases hlt : k < x.history.length
  ·
   obtain ⟨b, off, rfl, hbl⟩ := Lay.sl_addr (uh HE) (by omega)
   obtain ⟨row, hcl, hr⟩ := Lay.row_at (uh HE) hlt
   rw [List.drop_eq_getElem_cons hlt, List.all_cons] at hF
   have hdl : decide ((k : Int) < (x.history.length : Int)) = true := by simp; omega
   have hrl := hr.len
   obtain ⟨aq, dq, av, dv, ah, dh, rfl, -⟩ := open_Entry hr
   have hE : RowIn #[.int .i64 (x.history[k]).kind, .int .i64 (x.history[k]).session, .int .i64 (x.history[k]).seq, .int .i64 (x.history[k]).id, .slice aq (x.history[k]).query.length dq, .int .i64 (x.history[k]).k, .int .i64 (x.history[k]).start, .int .i64 (x.history[k]).fin, .int .i64 (x.history[k]).place, .slice av (x.history[k]).vec.length dv, .slice ah (x.history[k]).hits.length dh] wr b (off + k * 11) := RowIn.ofRow (A := Lay.tEntry) (k := k) (fun m hm => (hB.cell (p := ⟨b, off + k * 11 + m, none⟩) hbl).trans (hcl m hm)) hrl (Nat.lt_of_lt_of_le hbl hB.size)
   have HL := yh (l12EntryC _ _ _ _ _ _ _ _ _ _ _ _ _ _ x _ xb b (off + k * 11) wr hX2 hE)
   have HF := yh hF
   have HBQ := yh hB
   clear hF hX2 hB hr hrl hcl hE
   generalize x.history[k] = z at *
   go_wp2_with fail
   refine (uh HL).mono ?_
   rintro e w5 ⟨rfl, hb⟩
   replace HB3 := yh ((uh HB3).trans (hb.mono (uh HB3).size))
   replace HBQ := yh ((uh HBQ).trans (hb.mono (uh HBQ).size))
   clear HL hb y6
   generalize entryB x z = q at *
   cases q
   ·
    replace HF := yh ((uh HF).trans (if_neg (by simp)))
    go_wp2_with fail
    go_ret
    exact ⟨by rw [uh HF]; rfl, uh HB3⟩
   rw [Bool.true_and] at HF
   go_wp2_with fail
   go_roundw
   case rel => exact ⟨k + 1, by omega, by go_num, uh HF, uh HBQ⟩
   case measure => simp [intOf]; omega
  obtain rfl : k = x.history.length := by omega
  rw [List.drop_length, List.all_nil, if_pos rfl] at hF
  have hdl : decide ((x.history.length : Int) < (x.history.length : Int)) = false := by simp
  have HF := yh hF
  clear hF hB hX2
  go_wp2_with fail
  go_ret
  exact ⟨by rw [uh HF]; rfl, uh HB3⟩
theorem specWorldFault (cs : List Value) (x : DWorld) (w : World) (h : Lay.tWorld.Reads w cs x) :
  Calls Tryz.prog 5 #[.agg cs.toArray] w fun e w' => e = .returned (.int .i64 (worldFault x)) ∧ Below w.heap.size w w' := by
 obtain ⟨a3, d3, a4, d4, a5, d5, a6, d6, rfl, -, -, -, -⟩ := open_World h
 have nb : Below w.heap.size w (w.alloc (.cells #[.int .i64 x.now, .int .i64 x.events, .int .i64 x.chain.epoch, .slice a3 x.chain.ids.length d3, .slice a4 x.nodes.length d4, .slice a5 x.msgs.length d5, .slice a6 x.history.length d6] 37)) := (Below.refl _ _).alloc (Nat.le_refl _) _
 have HX : Hid (Box 0 #[.int .i64 x.now, .int .i64 x.events, .int .i64 x.chain.epoch, .slice a3 x.chain.ids.length d3, .slice a4 x.nodes.length d4, .slice a5 x.msgs.length d5, .slice a6 x.history.length d6] 37 (w.alloc (.cells #[.int .i64 x.now, .int .i64 x.events, .int .i64 x.chain.epoch, .slice a3 x.chain.ids.length d3, .slice a4 x.nodes.length d4, .slice a5 x.msgs.length d5, .slice a6 x.history.length d6] 37)) w.heap.size) := newBox (Nat.zero_le _)
 have HL := yh (l12FaultC a3 d3 a4 d4 a5 d5 a6 d6 x w.heap.size _ (uh HX) (h.later nb))
 have HB := yh nb
 clear nb h
 go_enter Tryz.func5, Tryz.ntmps5
 go_wp2_with fail
 refine (uh HL).mono ?_
 rintro e w2 ⟨rfl, hb⟩
 replace HB := yh ((uh HB).trans (hb.mono (uh HB).size))
 clear hb HL HX
 go_wp2_with fail
 go_ret
 exact ⟨rfl, uh HB⟩
theorem isNodeIdC (n : Int) (w : World) :
  Calls Tryz.prog 69 #[.int .i64 n] w fun e w' => e = .returned (.bool (decide (1 ≤ n) && decide (n ≤ 5))) ∧ w' = w := by
 by_cases h1 : 1 ≤ n
 ·
  have d1 : decide (1 ≤ n) = true := by simpa using h1
  rw [d1]
  cases d2 : decide (n ≤ 5) <;>
  ·
   go_enter Tryz.func69, Tryz.ntmps69
   go_wp2_with fail
   go_ret
   exact ⟨rfl, rfl⟩
 have d1 : decide (1 ≤ n) = false := by simpa using h1
 rw [d1]
 go_enter Tryz.func69, Tryz.ntmps69
 go_wp2_with fail
 go_ret
 exact ⟨rfl, rfl⟩
theorem isChainEpochC (n : Int) (w : World) :
  Calls Tryz.prog 43 #[.int .i64 n] w fun e w' => e = .returned (.bool (decide (1 ≤ n) && decide (n ≤ 999))) ∧ w' = w := by
 by_cases h1 : 1 ≤ n
 ·
  have d1 : decide (1 ≤ n) = true := by simpa using h1
  rw [d1]
  cases d2 : decide (n ≤ 999) <;>
  ·
   go_enter Tryz.func43, Tryz.ntmps43
   go_wp2_with fail
   go_ret
   exact ⟨rfl, rfl⟩
 have d1 : decide (1 ≤ n) = false := by simpa using h1
 rw [d1]
 go_enter Tryz.func43, Tryz.ntmps43
 go_wp2_with fail
 go_ret
 exact ⟨rfl, rfl⟩
theorem part_reads {w : World} {b off cap : Nat} {zs : List Int} (h : (Lay.sl Lay.int).Reads w [.slice (some ⟨b, off, none⟩) zs.length cap] zs) (m n c : Nat) (hm : m + n ≤ zs.length) (hc : n ≤ c) :
  (Lay.sl Lay.int).Reads w [.slice (some ⟨b, off + m, none⟩) n c] ((zs.drop m).take n) := by
 have hi := Lay.ints_reads h
 have hbig := h.big
 obtain ⟨ao, cp, e, hwf, hcs⟩ := hi
 have hlen : ((zs.drop m).take n).length = n := by simp; omega
 refine Lay.reads_ints ?_ (fun ao' cap' e' => ?_) (by rw [hlen]; omega)
 ·
  refine ⟨_, c, by rw [hlen], fun z hz => hwf z (List.mem_of_mem_drop (List.mem_of_mem_take hz)), fun hp => ⟨b, off + m, rfl, fun j hj => ?_⟩⟩
  rw [hlen] at hp hj
  obtain ⟨b', off', hao, hc1⟩ := hcs (by omega)
  simp only [Value.slice.injEq] at e
  obtain ⟨rfl, -, -⟩ := e
  simp only [Option.some.injEq, Addr.mk.injEq, and_true] at hao
  obtain ⟨rfl, rfl⟩ := hao
  rw [Nat.add_assoc, hc1 (m + j) (by omega)]
  simp only [List.getD]
  rw [List.getElem?_take, if_pos hj, List.getElem?_drop]
 simp only [Value.slice.injEq] at e'
 rw [hlen]
 omega
theorem take_reads {w : World} {ao : Option Addr} {n cap : Nat} {zs : List Int} (h : (Lay.sl Lay.int).Reads w [.slice ao n cap] zs) (k : Nat) (hk : k ≤ zs.length) :
  (Lay.sl Lay.int).Reads w [.slice ao k cap] (zs.take k) := by
 have hc := h.cap
 by_cases h0 : k = 0
 ·
  subst h0
  rw [List.take_zero]
  exact Lay.reads_ints ⟨ao, cap, rfl, by simp, fun hp => by simp at hp⟩ (fun _ _ _ => by simp) (by simp)
 have hi := Lay.ints_reads h
 obtain ⟨ao', cp, e, hwf, hcs⟩ := hi
 obtain ⟨b', off', hao, hc1⟩ := hcs (by omega)
 simp only [Value.slice.injEq] at e
 obtain ⟨rfl, rfl, rfl⟩ := e
 subst hao
 have := part_reads h 0 k cap (by omega) (by omega)
 simpa using this
theorem isNodeCountC (n : Int) (w : World) :
  Calls Tryz.prog 45 #[.int .i64 n] w fun e w' => e = .returned (.bool (decide (1 ≤ n) && decide (n ≤ 5))) ∧ w' = w := by
 by_cases h1 : 1 ≤ n
 ·
  have d1 : decide (1 ≤ n) = true := by simpa using h1
  rw [d1]
  cases d2 : decide (n ≤ 5) <;>
  ·
   go_enter Tryz.func45, Tryz.ntmps45
   go_wp2_with fail
   go_ret
   exact ⟨rfl, rfl⟩
 have d1 : decide (1 ≤ n) = false := by simpa using h1
 rw [d1]
 go_enter Tryz.func45, Tryz.ntmps45
 go_wp2_with fail
 go_ret
 exact ⟨rfl, rfl⟩
theorem indexI (v : Value) (ids : List Int) (id : Int) (w : World) (R : (Lay.sl Lay.int).Reads w [v] ids) :
  Calls Tryz.prog 85 #[v, .int .i64 id] w fun e w' => e = .returned (.int .i64 (placeC ids id)) ∧ w' = w := by
 obtain ⟨ao, cap, rfl⟩ := open_sl R
 have hbig := R.big
 have H := yh R
 clear R
 go_enter Tryz.func85, Tryz.ntmps85
 go_wp2_with fail
 go_loop [8] (fun i => ∃ k : Nat, k ≤ ids.length ∧ i = .int .i64 k ∧ (∀ j (hj : j < ids.length), j < k → ids[j] ≠ id)) (fun i => ids.length - (intOf i).toNat)
 case atStart => exact ⟨0, Nat.zero_le _, rfl, fun j _ h => by omega⟩
 case round =>
  obtain ⟨k, hk, rfl, hz⟩ := hrel
  by_cases hlt : k < ids.length
  ·
   obtain ⟨b2, off, rfl, -⟩ := Lay.sl_addr (uh H) (by omega)
   have c1 := int_cell (uh H) hlt
   cases hq : (id == ids[k])
   ·
    have HZ : Hid (∀ j (hj : j < ids.length), j < k + 1 → ids[j] ≠ id) := fun j hj hjk => by
     by_cases h2 : j < k
     ·
      exact hz j hj h2
     obtain rfl : j = k := by omega
     intro h3
     rw [h3] at hq
     simp at hq
    clear hz
    generalize ids[k] = z at *
    go_wp2_with fail
    go_round
    case rel => exact ⟨k + 1, by omega, by go_num, uh HZ⟩
    case measure => simp [intOf]; omega
   have HP := yh (placeC_at hlt (beq_iff_eq.1 hq).symm (fun j hj => hz j (by omega) hj))
   clear hz
   generalize ids[k] = z at *
   go_wp2_with fail
   go_ret
   exact ⟨by rw [uh HP]; rfl, rfl⟩
  obtain rfl : k = ids.length := by omega
  have HP := yh (placeC_none (id := id) (fun j hj => hz j hj hj))
  clear hz
  go_wp2_with fail
  go_ret
  exact ⟨by rw [uh HP]; rfl, rfl⟩
theorem containsI (v : Value) (ids : List Int) (id : Int) (w : World) (R : (Lay.sl Lay.int).Reads w [v] ids) :
  Calls Tryz.prog 70 #[v, .int .i64 id] w fun e w' => e = .returned (.bool (decide (0 ≤ placeC ids id))) ∧ w' = w := by
 have HL := yh (indexI v ids id w R)
 obtain ⟨ao, cap, rfl⟩ := open_sl R
 generalize placeC ids id = n at *
 clear R
 go_enter Tryz.func70, Tryz.ntmps70
 go_wp2_with fail
 refine (uh HL).mono ?_
 rintro e w1 ⟨rfl, h1⟩
 subst w1
 clear HL
 go_wp2_with fail
 go_ret
 exact ⟨rfl, rfl⟩
def idsFaultP (ids : List Int) : Int := if 1 ≤ ids.length ∧ ids.length ≤ 5 then idsF [] ids else 2
theorem idsFaultP_many {ids : List Int} (h : (decide (1 ≤ (ids.length : Int)) && decide ((ids.length : Int) ≤ 5)) = false) : idsFaultP ids = 2 := by
 rw [idsFaultP, if_neg]
 intro h2
 rw [decide_eq_true (by omega), decide_eq_true (by omega)] at h
 simp at h
theorem idsFaultP_few {ids : List Int} (h : (decide (1 ≤ (ids.length : Int)) && decide ((ids.length : Int) ≤ 5)) = true) : idsFaultP ids = idsF (ids.take 0) (ids.drop 0) := by
 rw [idsFaultP, if_pos]
 ·
  simp
 simp at h
 omega
theorem mem_place (ids : List Int) (z : Int) : decide (0 ≤ placeC ids z) = true ↔ z ∈ ids := by
 have h := placeC_neg ids z
 rw [decide_eq_true_iff]
 constructor
 ·
  intro h1
  refine Decidable.byContradiction fun h2 => ?_
  have := h.2 h2
  omega
 intro h1
 refine Decidable.byContradiction fun h2 => ?_
 exact h.1 (by omega) h1
theorem idsFaultC (v : Value) (ids : List Int) (w : World) (R : (Lay.sl Lay.int).Reads w [v] ids) :
  Calls Tryz.prog 44 #[v] w fun e w' => e = .returned (.int .i64 (idsFaultP ids)) ∧ w' = w := by
 obtain ⟨ao, cap, rfl⟩ := open_sl R
 have hbig := R.big
 have hcap := R.cap
 have H := yh R
 clear R
 go_enter Tryz.func44, Tryz.ntmps44
 go_wp2_with fail
 refine (isNodeCountC (ids.length : Int) w).mono ?_
 rintro e w1 ⟨rfl, h1⟩
 subst w1
 cases d1 : (decide (1 ≤ (ids.length : Int)) && decide ((ids.length : Int) ≤ 5))
 ·
  have HF := yh (idsFaultP_many d1)
  clear d1
  go_wp2_with fail
  go_ret
  exact ⟨by rw [uh HF]; rfl, rfl⟩
 have HF := yh (idsFaultP_few d1)
 clear d1
 go_wp2_with fail
 go_loop [11] (fun i => ∃ k : Nat, k ≤ ids.length ∧ i = .int .i64 k ∧ idsFaultP ids = idsF (ids.take k) (ids.drop k)) (fun i => ids.length - (intOf i).toNat)
 case atStart => exact ⟨0, Nat.zero_le _, rfl, uh HF⟩
 case round =>
  obtain ⟨k, hk, rfl, hz⟩ := hrel
  clear HF
  by_cases hlt : k < ids.length
  ·
   rw [idsF_step ids k hlt] at hz
   obtain ⟨b2, off, rfl, -⟩ := Lay.sl_addr (uh H) (by omega)
   have c1 := int_cell (uh H) hlt
   have HC := yh (containsI (.slice (some ⟨b2, off, none⟩) k cap) (ids.take k) ids[k] w (take_reads (uh H) k (by omega)))
   have HM := yh (mem_place (ids.take k) ids[k])
   have hdl : decide ((k : Int) < (ids.length : Int)) = true := by simp; omega
   have HZ := yh hz
   have hkc : k ≤ cap := by omega
   clear hz
   generalize ids[k] = z at *
   generalize ids.take k = zk at *
   go_wp2_with fail
   refine (isNodeIdC z w).mono ?_
   rintro e w1 ⟨rfl, h1⟩
   subst w1
   cases d2 : (decide (1 ≤ z) && decide (z ≤ 5))
   ·
    have hz := uh HZ
    rw [if_neg (by intro h; simp at d2; omega)] at hz
    have HF := yh hz
    clear hz HZ d2
    go_wp2_with fail
    go_ret
    exact ⟨by rw [uh HF]; rfl, rfl⟩
   have hz := uh HZ
   rw [if_pos (by simpa using d2)] at hz
   clear HZ d2
   have HZ := yh hz
   clear hz
   go_wp2_with fail
   refine (uh HC).mono ?_
   rintro e w1 ⟨rfl, h1⟩
   subst w1
   cases d3 : decide (0 ≤ placeC zk z)
   ·
    have hz := uh HZ
    rw [if_neg (fun hm => by rw [(uh HM).2 hm] at d3; simp at d3)] at hz
    have HF := yh hz
    clear hz HZ d3 HM HC
    go_wp2_with fail
    go_round
    case rel => exact ⟨k + 1, by omega, by go_num, uh HF⟩
    case measure => simp [intOf]; omega
   have hz := uh HZ
   rw [if_pos ((uh HM).1 d3)] at hz
   have HF := yh hz
   clear hz HZ d3 HM HC
   go_wp2_with fail
   go_ret
   exact ⟨by rw [uh HF]; rfl, rfl⟩
  obtain rfl : k = ids.length := by omega
  rw [idsF_end] at hz
  have HF := yh hz
  clear hz
  go_wp2_with fail
  go_ret
  exact ⟨by rw [uh HF]; rfl, rfl⟩
theorem cfi_out {x : DChain} (h : (decide (1 ≤ x.epoch) && decide (x.epoch ≤ 999)) = false) : chainFault x = 3 := by rw [chainFault, if_neg (by simp at h; omega)]
theorem cfi_ids {x : DChain} (h : (decide (1 ≤ x.epoch) && decide (x.epoch ≤ 999)) = true) : chainFault x = idsFaultP x.ids := by rw [chainFault, if_pos (by simp at h; omega), idsFaultP]
theorem implChainFault (cs : List Value) (x : DChain) (w : World) (h : Lay.tChain.Reads w cs x) :
  Calls Tryz.prog 19 #[.agg cs.toArray] w fun e w' => e = .returned (.int .i64 (chainFault x)) ∧ Below w.heap.size w w' := by
 obtain ⟨a, d, rfl, R⟩ := open_Chain h
 have nb : Below w.heap.size w (w.alloc (.cells #[.int .i64 x.epoch, .slice a x.ids.length d] 32)) := (Below.refl _ _).alloc (Nat.le_refl _) _
 have HR := yh (R.later nb)
 have HB := yh nb
 have HX : Hid (Box 0 #[.int .i64 x.epoch, .slice a x.ids.length d] 32 (w.alloc (.cells #[.int .i64 x.epoch, .slice a x.ids.length d] 32)) w.heap.size) := newBox (Nat.zero_le _)
 clear R h nb
 go_enter Tryz.func19, Tryz.ntmps19
 go_upto_region 1 with fail
 generalize w.alloc (.cells #[.int .i64 x.epoch, .slice a x.ids.length d] 32) = W at *
 have z0 : W.cell? ⟨w.heap.size, 0, none⟩ = some (.int .i64 x.epoch) := (uh HX).at 0 _ rfl
 have z1 : W.cell? ⟨w.heap.size, 1, none⟩ = some (.slice a x.ids.length d) := (uh HX).at 1 _ rfl
 clear HX
 cases d1 : (decide (1 ≤ x.epoch) && decide (x.epoch ≤ 999))
 ·
  have HF := yh (cfi_out d1)
  have L := yh (isChainEpochC x.epoch W)
  rw [d1] at L
  clear d1
  go_wp2_with fail
  refine (uh L).mono ?_
  rintro e w1 ⟨rfl, h1⟩
  subst w1
  clear L
  go_wp2_with fail
  go_ret
  exact ⟨by rw [uh HF]; rfl, uh HB⟩
 have HF := yh (cfi_ids d1)
 have L := yh (isChainEpochC x.epoch W)
 rw [d1] at L
 clear d1
 go_wp2_with fail
 refine (uh L).mono ?_
 rintro e w1 ⟨rfl, h1⟩
 subst w1
 clear L
 have L := yh (idsFaultC _ x.ids _ (uh HR))
 go_wp2_with fail
 refine (uh L).mono ?_
 rintro e w1 ⟨rfl, h1⟩
 subst w1
 clear L
 go_wp2_with fail
 go_ret
 exact ⟨by rw [uh HF]; rfl, uh HB⟩
theorem isUpToC (n m : Int) (w : World) :
  Calls Tryz.prog 18 #[.int .i64 n, .int .i64 m] w fun e w' => e = .returned (.bool (decide (0 ≤ n) && decide (n ≤ m))) ∧ w' = w := by
 by_cases h1 : 0 ≤ n
 ·
  have d1 : decide (0 ≤ n) = true := by simpa using h1
  rw [d1]
  cases d2 : decide (n ≤ m) <;>
  ·
   go_enter Tryz.func18, Tryz.ntmps18
   go_wp2_with fail
   go_ret
   exact ⟨rfl, rfl⟩
 have d1 : decide (0 ≤ n) = false := by simpa using h1
 rw [d1]
 go_enter Tryz.func18, Tryz.ntmps18
 go_wp2_with fail
 go_ret
 exact ⟨rfl, rfl⟩
end Go.Proofs.YtaadnjndioelbaaGreat

namespace Go.Proofs.YtaadnjndioelbaaGreat
open Go.RowKit Go.Maps
def tick (s q : Int) : Value := .agg #[.int .i64 s, .int .i64 q]
theorem tickLaid : laidOutB Tryz.prog = true := by kernel_rfl
theorem tickRow : (169 : TypeId) < Tryz.prog.types.size := of_decide_eq_true (by kernel_rfl)
theorem tickWide : (match Tryz.prog.underlying 169 with | some (.array _ _) | some (.struct _) => true | _ => false) = true := by kernel_rfl
theorem tickKeyed : Keyed Tryz.prog 169 := Keyed.of_law (deep_law_laid tickLaid (m := 2) (by omega) tickRow (by kernel_rfl) tickWide)
theorem tickKey {s q : Int} (hs : (Lit.int .i64 s).wf = true) (hq : (Lit.int .i64 q).wf = true) : keyOf Tryz.prog 169 (tick s q) = some (.string (keyBytes [.int .i64 s, .int .i64 q])) := by
 have hk : Tryz.prog.keyType 169 = true := by kernel_rfl
 have hc : Tryz.prog.cellsOf 169 = 2 := by kernel_rfl
 have hc1 : Tryz.prog.cellsOf 2 = 1 := by kernel_rfl
 have hf : (tick s q).formed Tryz.prog 169 = true := by simp [tick, Value.formed, Tryz.underlying169, hc]
 obtain ⟨m, hm⟩ : ∃ m, Tryz.prog.types.size = m + 1 := ⟨_, (Nat.succ_pred_eq_of_pos (Nat.lt_of_le_of_lt (Nat.zero_le _) tickRow)).symm⟩
 unfold keyOf
 simp only [Tryz.underlying169]
 rw [if_pos (by rw [hk, hf]; rfl), hm]
 unfold Program.keyLits
 simp only [Tryz.underlying169, tick, Value.cells]
 simp [hc, hc1, Program.keyLits, Tryz.underlying2, hs, hq]
theorem tickZero (w : World) : (zeroValue 2).run Tryz.prog w = .ok (.int .i64 0) w := by kernel_rfl
def Ticks (w : World) (b n : Nat) (f : Int → Int → Nat) : Prop := ∃ D : DataW Unit, w.ownsMap Tryz.prog 169 (plainElem Tryz.prog 2) b n D ∧
 ∀ s q, (Lit.int .i64 s).wf = true → (Lit.int .i64 q).wf = true → Maps.has D (.string (keyBytes [.int .i64 s, .int .i64 q])) = decide (f s q ≠ 0) ∧ D.atKey (.string (keyBytes [.int .i64 s, .int .i64 q])) (.lit (.int .i64 0)) = .lit (.int .i64 (f s q))
theorem Ticks.ext {S : Nat → Prop} {w w' : World} {b n : Nat} {f : Int → Int → Nat} (h : Ticks w b n f) (e : Ext S w w') (hb : ¬ S b) : Ticks w' b n f := by
 obtain ⟨D, h, r⟩ := h
 have hlt := World.ownsMap.lt h
 obtain ⟨es, clock, hb', r'⟩ := h
 exact ⟨D, ⟨es, clock, (e.block b hlt hb).trans hb', r'⟩, r⟩
theorem Ticks.lt {w : World} {b n : Nat} {f : Int → Int → Nat} (h : Ticks w b n f) : b < w.heap.size := by
 obtain ⟨D, h, -⟩ := h
 exact World.ownsMap.lt h
theorem Ticks.mono {w : World} {b n n' : Nat} {f : Int → Int → Nat} (h : Ticks w b n f) (hn : n ≤ n') : Ticks w b n' f := by
 obtain ⟨D, h, r⟩ := h
 exact ⟨D, World.ownsMap.mono h hn, r⟩
theorem Ticks.congr {w : World} {b n : Nat} {f g : Int → Int → Nat} (h : Ticks w b n f) (e : ∀ s q, f s q = g s q) : Ticks w b n g := by
 obtain ⟨D, h, r⟩ := h
 exact ⟨D, h, fun s q hs hq => by rw [← e]; exact r s q hs hq⟩
theorem Ticks.look {w : World} {b n : Nat} {f : Int → Int → Nat} (h : Ticks w b n f) {s q : Int} (hs : (Lit.int .i64 s).wf = true) (hq : (Lit.int .i64 q).wf = true) :
  (Instr.lookup 163 (.map (some b)) (tick s q) true).run Tryz.prog w = .ok (.tuple #[.int .i64 (f s q), .bool (decide (f s q ≠ 0))]) w := by
 obtain ⟨D, h, r⟩ := h
 obtain ⟨r1, r2⟩ := r s q hs hq
 obtain ⟨v, ps, hrun, hv⟩ := World.ownsMap.look_ok h tickKeyed Tryz.underlying163 (tickZero w) (plainElem_int Tryz.underlying2 (by decide)) (tickKey hs hq)
 rw [r2] at hv
 obtain ⟨c, rfl, hc, -⟩ := plainElem_int_inv Tryz.underlying2 hv
 rw [r1] at hrun
 simp only [Prod.mk.injEq, DataW.lit.injEq, Lit.int.injEq, true_and] at hc
 rw [hc.1]
 exact hrun
theorem Ticks.put {w : World} {b n : Nat} {f : Int → Int → Nat} (h : Ticks w b n f) (hn : n < 100000) {s q : Int} (hs : (Lit.int .i64 s).wf = true) (hq : (Lit.int .i64 q).wf = true) {m : Nat} (hm : m ≠ 0) (hw : (Lit.int .i64 (m : Int)).wf = true) :
  ∃ w', (Instr.mapUpdate 163 (.map (some b)) (tick s q) (.int .i64 m)).run Tryz.prog w = .ok () w' ∧ Ticks w' b (n + 1) (fun s' q' => if s' = s ∧ q' = q then m else f s' q') ∧ Ext (fun c => c = b) w w' := by
 obtain ⟨D, h, r⟩ := h
 obtain ⟨w', h1, h2, h3⟩ := World.ownsMap.store h tickKeyed Tryz.underlying163 (by unfold maxLen; omega) (tickKey hs hq) (plainElem_int Tryz.underlying2 hw)
 refine ⟨w', h1, ⟨_, h2, fun s' q' hs' hq' => ?_⟩, ?_⟩
 ·
  have hk : WideAt.IsKeyLit (.string (keyBytes [.int .i64 s, .int .i64 q])) := trivial
  by_cases e : s' = s ∧ q' = q
  ·
   obtain ⟨rfl, rfl⟩ := e
   rw [Maps.has_put_same (World.ownsMap.isMap h) hk, Maps.atKey_put_same (World.ownsMap.isMap h) hk]
   simp [hm]
  have hne : Lit.string (keyBytes [.int .i64 s', .int .i64 q']) ≠ Lit.string (keyBytes [.int .i64 s, .int .i64 q]) := by
   intro e2
   have k1 := tickKey hs' hq'
   rw [e2] at k1
   have k2 := tickKeyed.inj k1 (tickKey hs hq)
   simp only [tick, Value.agg.injEq, Array.mk.injEq, List.cons.injEq, Value.int.injEq, true_and, and_true] at k2
   exact e k2
  rw [Maps.has_put_other hne, Maps.atKey_put_other hne]
  simp only [if_neg e]
  exact r s' q' hs' hq'
 have g := h3.grown
 obtain ⟨es, clock, es', clock', hb, rfl⟩ := h3
 exact ⟨rfl, rfl, rfl, by simp [ChangeMaps.setBlock], fun k hk hn => g.block k hk (fun e => hn (by simpa using e))⟩
theorem ticks_new (w : World) : Ticks (w.alloc (.map #[] 0)) w.heap.size 0 (fun _ _ => 0) := ⟨.map [], World.ownsMap_made w _ _ _, fun _ _ _ _ => ⟨rfl, rfl⟩⟩
end Go.Proofs.YtaadnjndioelbaaGreat
