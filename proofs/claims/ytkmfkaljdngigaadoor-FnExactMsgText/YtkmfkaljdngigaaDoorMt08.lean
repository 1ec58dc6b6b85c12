/-
  l11Msg and MsgFault of the model: what is wrong with a message; nothing old is written.
  No condition.
-/
import Derived.Test.YtkmfkaljdngigaaDoorChecked
import Derived.Test.YtkmfkaljdngigaaDoorMt04
import Derived.Test.YtkmfkaljdngigaaDoorMt03
import Derived.Test.YtkmfkaljdngigaaDoorMt07
import Derived.Test.YtkmfkaljdngigaaDoorMt01
import Derived.Deep.RegionHeld3
import Derived.Deep.CutRange

namespace Go.Proofs.YtkmfkaljdngigaaDoor
open Go.RowKit

/-- A message at a place. -/
def MsgAt (w : World) (b o : Nat) (x : DMsg) (v : Value) : Prop :=
  w.cell? ⟨b, o, none⟩ = some (.int .i64 x.kind) ∧ w.cell? ⟨b, o + 1, none⟩ = some (.int .i64 x.epoch) ∧ w.cell? ⟨b, o + 2, none⟩ = some (.int .i64 x.src) ∧ w.cell? ⟨b, o + 3, none⟩ = some (.int .i64 x.dst) ∧ w.cell? ⟨b, o + 4, none⟩ = some (.int .i64 x.index) ∧ w.cell? ⟨b, o + 5, none⟩ = some (.int .i64 x.write.kind) ∧ w.cell? ⟨b, o + 5 + 1, none⟩ = some (.int .i64 x.write.id) ∧ w.cell? ⟨b, o + 5 + 2, none⟩ = some (v) ∧ w.cell? ⟨b, o + 5 + 3, none⟩ = some (.int .i64 x.write.session) ∧ w.cell? ⟨b, o + 5 + 4, none⟩ = some (.int .i64 x.write.seq)
theorem MsgAt.later {w w' : World} {b o : Nat} {x : DMsg} {v : Value} (h : MsgAt w b o x v) (hb : Below w.heap.size w w') : MsgAt w' b o x v := by
  obtain ⟨c0, c1, c2, c3, c4, c5, c6, c7, c8, c9⟩ := h
  have hl := World.block_lt_of_cell? _ _ c0
  exact ⟨(hb.cell (p := ⟨b, o, none⟩) hl).trans c0, (hb.cell (p := ⟨b, o + 1, none⟩) hl).trans c1, (hb.cell (p := ⟨b, o + 2, none⟩) hl).trans c2, (hb.cell (p := ⟨b, o + 3, none⟩) hl).trans c3, (hb.cell (p := ⟨b, o + 4, none⟩) hl).trans c4, (hb.cell (p := ⟨b, o + 5, none⟩) hl).trans c5, (hb.cell (p := ⟨b, o + 5 + 1, none⟩) hl).trans c6, (hb.cell (p := ⟨b, o + 5 + 2, none⟩) hl).trans c7, (hb.cell (p := ⟨b, o + 5 + 3, none⟩) hl).trans c8, (hb.cell (p := ⟨b, o + 5 + 4, none⟩) hl).trans c9⟩
theorem noW_f0 {y : DWrite} (h : (y.kind == 0) = false) : decide (noW y) = false := by
  rw [decide_eq_false_iff_not]; intro q; rw [q.1] at h; simp at h
theorem noW_f1 {y : DWrite} (h : (y.id == 0) = false) : decide (noW y) = false := by
  rw [decide_eq_false_iff_not]; intro q; rw [q.2.1] at h; simp at h
theorem noW_f2 {y : DWrite} (h : (y.session == 0) = false) : decide (noW y) = false := by
  rw [decide_eq_false_iff_not]; intro q; rw [q.2.2.1] at h; simp at h
theorem noW_f3 {y : DWrite} (h : (y.seq == 0) = false) : decide (noW y) = false := by
  rw [decide_eq_false_iff_not]; intro q; rw [q.2.2.2.1] at h; simp at h
theorem noW_f4 {y : DWrite} (h : ((y.vec.length : Int) == 0) = false) : decide (noW y) = false := by
  rw [decide_eq_false_iff_not]; intro q; rw [q.2.2.2.2] at h; simp at h
theorem noW_t {y : DWrite} (h0 : (y.kind == 0) = true) (h1 : (y.id == 0) = true) (h2 : (y.session == 0) = true) (h3 : (y.seq == 0) = true) (h4 : ((y.vec.length : Int) == 0) = true) : decide (noW y) = true := by
  rw [decide_eq_true_iff]
  simp only [beq_iff_eq] at h0 h1 h2 h3 h4
  exact ⟨h0, h1, h2, h3, by omega⟩
theorem mf_kind {x : DMsg} (h : (decide (1 ≤ x.kind) && decide (x.kind ≤ 2)) = false) : msgFault x = 1 := by
  rw [msgFault, if_pos (Or.inl (by simpa using h))]
theorem mf_self {x : DMsg} (h : (x.src == x.dst) = true) : msgFault x = 1 := by
  rw [msgFault, if_pos (Or.inr (Or.inl (beq_iff_eq.1 h)))]
theorem mf_ack {x : DMsg} (h : (x.kind == 2) = true) (h2 : decide (noW x.write) = false) : msgFault x = 1 := by
  rw [msgFault, if_pos (Or.inr (Or.inr ⟨beq_iff_eq.1 h, decide_eq_false_iff_not.1 h2⟩))]
def mfRest (x : DMsg) : Int := if ¬ (1 ≤ x.epoch ∧ x.epoch ≤ 999) ∨ ¬ (1 ≤ x.src ∧ x.src ≤ 5) ∨ ¬ (1 ≤ x.dst ∧ x.dst ≤ 5) ∨ ¬ (0 ≤ x.index ∧ x.index ≤ 40) ∨ (x.kind ≠ 2 ∧ x.index = 0) then 3
  else if x.kind = 2 then 0 else wF x.write
theorem mf_rest1 {x : DMsg} (h : (decide (1 ≤ x.kind) && decide (x.kind ≤ 2)) = true) (h1 : (x.src == x.dst) = false) (h2 : (x.kind == 2) = false) : msgFault x = mfRest x := by
  rw [msgFault, if_neg, mfRest]
  simp at h h1 h2
  rintro (q | q | q)
  · exact q h
  · exact h1 q
  · exact h2 q.1
theorem mf_rest2 {x : DMsg} (h : (decide (1 ≤ x.kind) && decide (x.kind ≤ 2)) = true) (h1 : (x.src == x.dst) = false) (h2 : decide (noW x.write) = true) : msgFault x = mfRest x := by
  rw [msgFault, if_neg, mfRest]
  simp at h h1 h2
  rintro (q | q | q)
  · exact q h
  · exact h1 q
  · exact q.2 h2
theorem mr_epoch {x : DMsg} (h : (decide (1 ≤ x.epoch) && decide (x.epoch ≤ 999)) = false) : mfRest x = 3 := by
  rw [mfRest, if_pos (Or.inl (by simpa using h))]
theorem mr_src {x : DMsg} (h : (decide (1 ≤ x.src) && decide (x.src ≤ 5)) = false) : mfRest x = 3 := by
  rw [mfRest, if_pos (Or.inr (Or.inl (by simpa using h)))]
theorem mr_dst {x : DMsg} (h : (decide (1 ≤ x.dst) && decide (x.dst ≤ 5)) = false) : mfRest x = 3 := by
  rw [mfRest, if_pos (Or.inr (Or.inr (Or.inl (by simpa using h))))]
theorem mr_index {x : DMsg} (h : (decide (0 ≤ x.index) && decide (x.index ≤ 40)) = false) : mfRest x = 3 := by
  rw [mfRest, if_pos (Or.inr (Or.inr (Or.inr (Or.inl (by simpa using h)))))]
theorem mr_zero {x : DMsg} (h : (x.kind == 2) = false) (h2 : (x.index == 0) = true) : mfRest x = 3 := by
  rw [mfRest, if_pos (Or.inr (Or.inr (Or.inr (Or.inr ⟨by simpa using h, by simpa using h2⟩))))]
theorem mr_ok {x : DMsg} (h0 : (decide (1 ≤ x.epoch) && decide (x.epoch ≤ 999)) = true) (h1 : (decide (1 ≤ x.src) && decide (x.src ≤ 5)) = true) (h2 : (decide (1 ≤ x.dst) && decide (x.dst ≤ 5)) = true) (h3 : (decide (0 ≤ x.index) && decide (x.index ≤ 40)) = true) (h4 : (x.kind == 2) = true ∨ (x.index == 0) = false) : mfRest x = if x.kind = 2 then 0 else wF x.write := by
  rw [mfRest, if_neg]
  simp at h0 h1 h2 h3 h4
  rintro (q | q | q | q | q)
  · exact q h0
  · exact q h1
  · exact q h2
  · exact q h3
  · rcases h4 with h4 | h4
    · exact q.1 h4
    · exact h4 q.2

theorem write_vec {w : World} {y : DWrite} {a : Option Addr} {d : Nat} (h : Lay.tWrite.Reads w [.int .i64 y.kind, .int .i64 y.id, .slice a y.vec.length d, .int .i64 y.session, .int .i64 y.seq] y) : (Lay.sl Lay.int).Reads w [.slice a y.vec.length d] y.vec := by
  obtain ⟨a2, d2, e, R⟩ := open_Write h
  simp only [List.cons.injEq, Value.slice.injEq, and_true, true_and] at e
  obtain ⟨rfl, rfl⟩ := e
  exact R
theorem msgAt_box {w : World} {g : Nat} {x : DMsg} {a : Option Addr} {d : Nat} (h : Box 0 #[.int .i64 x.kind, .int .i64 x.epoch, .int .i64 x.src, .int .i64 x.dst, .int .i64 x.index, .int .i64 x.write.kind, .int .i64 x.write.id, .slice a x.write.vec.length d, .int .i64 x.write.session, .int .i64 x.write.seq] 33 w g) : MsgAt w g 0 x (.slice a x.write.vec.length d) :=
  ⟨h.at 0 _ rfl, h.at 1 _ rfl, h.at 2 _ rfl, h.at 3 _ rfl, h.at 4 _ rfl, h.at 5 _ rfl, h.at 6 _ rfl, h.at 7 _ rfl, h.at 8 _ rfl, h.at 9 _ rfl⟩

set_option maxRecDepth 10000 in
set_option maxHeartbeats 2000000 in
theorem l11MsgC (b o : Nat) (a : Option Addr) (d : Nat) (x : DMsg) (w : World) (hM : MsgAt w b o x (.slice a x.write.vec.length d)) (R : (Lay.sl Lay.int).Reads w [.slice a x.write.vec.length d] x.write.vec) :
    Calls Tryd.prog 11 #[.pointer (some ⟨b, o, none⟩)] w fun e w' => e = .returned (.int .i64 (msgFault x)) ∧ Below w.heap.size w w' := by
  have hbig := R.big
  have H := hide R
  have HM := hide hM
  obtain ⟨c0, c1, c2, c3, c4, c5, c6, c7, c8, c9⟩ := hM
  have hb := World.block_lt_of_cell? _ _ c0
  clear R
  go_enter Tryd.func11, Tryd.ntmps11
  go_upto_region 2 with fail
  go_cut [4] from 10 to 48 (fun s4 wx => s4 = .bool (decide (noW x.write)) ∧ wx = w)
  case first =>
    cases e0 : (x.write.kind == 0)
    · have HF := hide (noW_f0 e0)
      go_wp2_with fail
      go_meet
      exact ⟨by rw [unhide HF], rfl⟩
    · cases e1 : (x.write.id == 0)
      · have HF := hide (noW_f1 e1)
        go_wp2_with fail
        go_meet
        exact ⟨by rw [unhide HF], rfl⟩
      · cases e2 : (x.write.session == 0)
        · have HF := hide (noW_f2 e2)
          go_wp2_with fail
          go_meet
          exact ⟨by rw [unhide HF], rfl⟩
        · cases e3 : (x.write.seq == 0)
          · have HF := hide (noW_f3 e3)
            go_wp2_with fail
            go_meet
            exact ⟨by rw [unhide HF], rfl⟩
          · cases e4 : ((x.write.vec.length : Int) == 0)
            · have HF := hide (noW_f4 e4)
              go_wp2_with fail
              go_meet
              exact ⟨by rw [unhide HF], rfl⟩
            · have HF := hide (noW_t e0 e1 e2 e3 e4)
              go_wp2_with fail
              go_meet
              exact ⟨by rw [unhide HF], rfl⟩
  case rest =>
    obtain ⟨rfl, hwc⟩ := hcut
    subst hwc
    cases d1 : (decide (1 ≤ x.kind) && decide (x.kind ≤ 2))
    · have HF := hide (mf_kind d1)
      go_upto_region 3 with fail
      refine wp_region_noPanic ?_
      refine wp_region_held_drew (S := fun w' => Below wc.heap.size wc w') (by kernel_rfl) (Below.refl _ _).drew (fun hHeld => ?_)
      generalize wc.drew = wD at hHeld ⊢
      refine wpAnyH_take (i := 0) (oi := { dst := some 49, op := Go.Op.move (Go.Operand.tmp 0), type := 40, pos := "l11_net.go:10", after := #[], guard := none }) (v := ?va0_1) rfl (by kernel_rfl) (by kernel_rfl) (by kernel_rfl) (fun _ _ _ h => h) (Or.inl ⟨by rfl, ?ha0_1⟩) hHeld ?ra0_1
      case ha0_1 =>
        intro wS hSw
        (try dsimp only at hSw)
        go_simp
        try with_reducible rfl
      case ra0_1 =>
      simp only [Act.put, List.setIfInBounds_toArray, List.set_cons_zero, List.set_cons_succ]
      refine wpAnyH_take (i := 1) (oi := { dst := some 50, op := Go.Op.nilCheck (Go.Operand.tmp 49), type := 0, pos := "l11_net.go:10", after := #[{ on := 0, ground := Go.Ground.data }], guard := none }) (v := ?va1_2) rfl (by kernel_rfl) (by kernel_rfl) (by kernel_rfl) (fun _ _ _ h => h) (Or.inl ⟨by rfl, ?ha1_2⟩) hHeld ?ra1_2
      case ha1_2 =>
        intro wS hSw
        (try dsimp only at hSw)
        go_simp
        try with_reducible rfl
      case ra1_2 =>
      simp only [Act.put, List.setIfInBounds_toArray, List.set_cons_zero, List.set_cons_succ]
      refine wpAnyH_take (i := 2) (oi := { dst := some 51, op := Go.Op.fieldAddr 33 (Go.Operand.tmp 50) 0, type := 0, pos := "l11_net.go:10", after := #[{ on := 1, ground := Go.Ground.data }], guard := none }) (v := ?va2_3) rfl (by kernel_rfl) (by kernel_rfl) (by kernel_rfl) (fun _ _ _ h => h) (Or.inl ⟨by rfl, ?ha2_3⟩) hHeld ?ra2_3
      case ha2_3 =>
        intro wS hSw
        (try dsimp only at hSw)
        go_simp
        try with_reducible rfl
      case ra2_3 =>
      simp only [Act.put, List.setIfInBounds_toArray, List.set_cons_zero, List.set_cons_succ]
      refine wpAnyH_take (i := 3) (oi := { dst := some 52, op := Go.Op.load 2 (Go.Operand.tmp 51), type := 2, pos := "l11_net.go:10", after := #[{ on := 2, ground := Go.Ground.data }], guard := none }) (v := ?va3_4) rfl (by kernel_rfl) (by kernel_rfl) (by kernel_rfl) (fun _ _ _ h => h) (Or.inl ⟨by rfl, ?ha3_4⟩) hHeld ?ra3_4
      case ha3_4 =>
        intro wS hSw
        have q0 := (hSw.cell (p := ⟨b, o, none⟩) hb).trans c0
        clear hSw
        (try dsimp only at hSw)
        go_simp
        try with_reducible rfl
      case ra3_4 =>
      simp only [Act.put, List.setIfInBounds_toArray, List.set_cons_zero, List.set_cons_succ]
      refine wpAnyH_ready (rs := [4]) (by kernel_rfl) (by simp) ?_
      refine AllReadyH.cons (o := { dst := some 53, op := Go.Op.call { callee := Go.Callee.value (Go.Operand.func 21), args := #[Go.Operand.tmp 52, Go.Operand.const (Go.Value.int Go.IntKind.i64 1), Go.Operand.const (Go.Value.int Go.IntKind.i64 2)], argTypes := #[2, 2, 2] }, type := 4, pos := "l11_net.go:10", after := #[{ on := 3, ground := Go.Ground.data }], guard := none }) rfl (fun K hK => ?_) AllReadyH.nil
      go_simp
      go_at_call 21
      refine (inC x.kind 1 2 _).mono ?_
      rintro e w1 ⟨rfl, h1⟩
      subst w1
      rw [d1]
      try go_wp2_with fail
      refine hK.out _ _ hHeld (fun hHeld => ?_)
      clear hK K
      try simp only [Act.put, List.setIfInBounds_toArray, List.set_cons_zero, List.set_cons_succ]
      refine wpAnyH_take (i := 5) (oi := { dst := some 54, op := Go.Op.unOp Go.UnOp.not 4 (Go.Operand.tmp 53), type := 4, pos := "l11_net.go:10", after := #[{ on := 4, ground := Go.Ground.data }], guard := none }) (v := ?va5_5) rfl (by kernel_rfl) (by kernel_rfl) (by kernel_rfl) (fun _ _ _ h => h) (Or.inl ⟨by rfl, ?ha5_5⟩) hHeld ?ra5_5
      case ha5_5 =>
        intro wS hSw
        (try dsimp only at hSw)
        go_simp
        try with_reducible rfl
      case ra5_5 =>
      simp only [Act.put, List.setIfInBounds_toArray, List.set_cons_zero, List.set_cons_succ]
      refine wpAnyH_take (i := 6) (oi := { dst := some 55, op := Go.Op.move (Go.Operand.tmp 54), type := 4, pos := "l11_net.go:10", after := #[{ on := 5, ground := Go.Ground.data }, { on := 4, ground := Go.Ground.chain }], guard := none }) (v := ?va6_6) rfl (by kernel_rfl) (by kernel_rfl) (by kernel_rfl) (fun _ _ _ h => h) (Or.inl ⟨by rfl, ?ha6_6⟩) hHeld ?ra6_6
      case ha6_6 =>
        intro wS hSw
        (try dsimp only at hSw)
        go_simp
        try with_reducible rfl
      case ra6_6 =>
      simp only [Act.put, List.setIfInBounds_toArray, List.set_cons_zero, List.set_cons_succ]
      refine wpAnyH_take (i := 7) (oi := { dst := some 56, op := Go.Op.move (Go.Operand.tmp 0), type := 40, pos := "l11_net.go:10", after := #[{ on := 6, ground := Go.Ground.guard }], guard := some (6, false) }) (v := undef) rfl (by kernel_rfl) (by kernel_rfl) (by kernel_rfl) (fun _ _ _ h => h) (Or.inr ⟨by rfl, rfl⟩) hHeld ?_
      simp only [Act.put, List.setIfInBounds_toArray, List.set_cons_zero, List.set_cons_succ]
      refine wpAnyH_take (i := 8) (oi := { dst := some 57, op := Go.Op.nilCheck (Go.Operand.tmp 56), type := 0, pos := "l11_net.go:10", after := #[{ on := 7, ground := Go.Ground.data }, { on := 6, ground := Go.Ground.guard }], guard := some (6, false) }) (v := undef) rfl (by kernel_rfl) (by kernel_rfl) (by kernel_rfl) (fun _ _ _ h => h) (Or.inr ⟨by rfl, rfl⟩) hHeld ?_
      simp only [Act.put, List.setIfInBounds_toArray, List.set_cons_zero, List.set_cons_succ]
      refine wpAnyH_take (i := 9) (oi := { dst := some 58, op := Go.Op.fieldAddr 33 (Go.Operand.tmp 57) 2, type := 0, pos := "l11_net.go:10", after := #[{ on := 8, ground := Go.Ground.data }, { on := 6, ground := Go.Ground.guard }], guard := some (6, false) }) (v := undef) rfl (by kernel_rfl) (by kernel_rfl) (by kernel_rfl) (fun _ _ _ h => h) (Or.inr ⟨by rfl, rfl⟩) hHeld ?_
      simp only [Act.put, List.setIfInBounds_toArray, List.set_cons_zero, List.set_cons_succ]
      refine wpAnyH_take (i := 10) (oi := { dst := some 59, op := Go.Op.load 2 (Go.Operand.tmp 58), type := 2, pos := "l11_net.go:10", after := #[{ on := 9, ground := Go.Ground.data }, { on := 6, ground := Go.Ground.guard }], guard := some (6, false) }) (v := undef) rfl (by kernel_rfl) (by kernel_rfl) (by kernel_rfl) (fun _ _ _ h => h) (Or.inr ⟨by rfl, rfl⟩) hHeld ?_
      simp only [Act.put, List.setIfInBounds_toArray, List.set_cons_zero, List.set_cons_succ]
      refine wpAnyH_take (i := 11) (oi := { dst := some 60, op := Go.Op.move (Go.Operand.tmp 0), type := 40, pos := "l11_net.go:10", after := #[{ on := 6, ground := Go.Ground.guard }], guard := some (6, false) }) (v := undef) rfl (by kernel_rfl) (by kernel_rfl) (by kernel_rfl) (fun _ _ _ h => h) (Or.inr ⟨by rfl, rfl⟩) hHeld ?_
      simp only [Act.put, List.setIfInBounds_toArray, List.set_cons_zero, List.set_cons_succ]
      refine wpAnyH_take (i := 12) (oi := { dst := some 61, op := Go.Op.nilCheck (Go.Operand.tmp 60), type := 0, pos := "l11_net.go:10", after := #[{ on := 11, ground := Go.Ground.data }, { on := 6, ground := Go.Ground.guard }], guard := some (6, false) }) (v := undef) rfl (by kernel_rfl) (by kernel_rfl) (by kernel_rfl) (fun _ _ _ h => h) (Or.inr ⟨by rfl, rfl⟩) hHeld ?_
      simp only [Act.put, List.setIfInBounds_toArray, List.set_cons_zero, List.set_cons_succ]
      refine wpAnyH_take (i := 13) (oi := { dst := some 62, op := Go.Op.fieldAddr 33 (Go.Operand.tmp 61) 3, type := 0, pos := "l11_net.go:10", after := #[{ on := 12, ground := Go.Ground.data }, { on := 6, ground := Go.Ground.guard }], guard := some (6, false) }) (v := undef) rfl (by kernel_rfl) (by kernel_rfl) (by kernel_rfl) (fun _ _ _ h => h) (Or.inr ⟨by rfl, rfl⟩) hHeld ?_
      simp only [Act.put, List.setIfInBounds_toArray, List.set_cons_zero, List.set_cons_succ]
      refine wpAnyH_take (i := 14) (oi := { dst := some 63, op := Go.Op.load 2 (Go.Operand.tmp 62), type := 2, pos := "l11_net.go:10", after := #[{ on := 13, ground := Go.Ground.data }, { on := 6, ground := Go.Ground.guard }], guard := some (6, false) }) (v := undef) rfl (by kernel_rfl) (by kernel_rfl) (by kernel_rfl) (fun _ _ _ h => h) (Or.inr ⟨by rfl, rfl⟩) hHeld ?_
      simp only [Act.put, List.setIfInBounds_toArray, List.set_cons_zero, List.set_cons_succ]
      refine wpAnyH_take (i := 15) (oi := { dst := some 64, op := Go.Op.binOp Go.BinOp.eql 2 (Go.Operand.tmp 59) (Go.Operand.tmp 63) 2, type := 4, pos := "l11_net.go:10", after := #[{ on := 10, ground := Go.Ground.data }, { on := 14, ground := Go.Ground.data }, { on := 6, ground := Go.Ground.guard }], guard := some (6, false) }) (v := undef) rfl (by kernel_rfl) (by kernel_rfl) (by kernel_rfl) (fun _ _ _ h => h) (Or.inr ⟨by rfl, rfl⟩) hHeld ?_
      simp only [Act.put, List.setIfInBounds_toArray, List.set_cons_zero, List.set_cons_succ]
      refine wpAnyH_take (i := 16) (oi := { dst := some 65, op := Go.Op.pick (Go.Operand.tmp 55) (Go.Operand.const (Go.Value.bool true)) (Go.Operand.tmp 64), type := 4, pos := "l11_net.go:10", after := #[{ on := 6, ground := Go.Ground.data }, { on := 15, ground := Go.Ground.data }], guard := none }) (v := ?va16_16) rfl (by kernel_rfl) (by kernel_rfl) (by kernel_rfl) (fun _ _ _ h => h) (Or.inl ⟨by rfl, ?ha16_16⟩) hHeld ?ra16_16
      case ha16_16 =>
        intro wS hSw
        (try dsimp only at hSw)
        go_simp
        try with_reducible rfl
      case ra16_16 =>
      simp only [Act.put, List.setIfInBounds_toArray, List.set_cons_zero, List.set_cons_succ]
      refine wpAnyH_take (i := 17) (oi := { dst := some 66, op := Go.Op.move (Go.Operand.tmp 65), type := 4, pos := "l11_net.go:10", after := #[{ on := 16, ground := Go.Ground.data }, { on := 6, ground := Go.Ground.chain }], guard := none }) (v := ?va17_17) rfl (by kernel_rfl) (by kernel_rfl) (by kernel_rfl) (fun _ _ _ h => h) (Or.inl ⟨by rfl, ?ha17_17⟩) hHeld ?ra17_17
      case ha17_17 =>
        intro wS hSw
        (try dsimp only at hSw)
        go_simp
        try with_reducible rfl
      case ra17_17 =>
      simp only [Act.put, List.setIfInBounds_toArray, List.set_cons_zero, List.set_cons_succ]
      refine wpAnyH_take (i := 18) (oi := { dst := some 67, op := Go.Op.move (Go.Operand.tmp 3), type := 4, pos := "l11_net.go:10", after := #[{ on := 17, ground := Go.Ground.guard }], guard := some (17, false) }) (v := undef) rfl (by kernel_rfl) (by kernel_rfl) (by kernel_rfl) (fun _ _ _ h => h) (Or.inr ⟨by rfl, rfl⟩) hHeld ?_
      simp only [Act.put, List.setIfInBounds_toArray, List.set_cons_zero, List.set_cons_succ]
      refine wpAnyH_take (i := 19) (oi := { dst := some 68, op := Go.Op.move (Go.Operand.tmp 67), type := 4, pos := "l11_net.go:10", after := #[{ on := 18, ground := Go.Ground.data }, { on := 17, ground := Go.Ground.chain }, { on := 17, ground := Go.Ground.guard }], guard := some (17, false) }) (v := undef) rfl (by kernel_rfl) (by kernel_rfl) (by kernel_rfl) (fun _ _ _ h => h) (Or.inr ⟨by rfl, rfl⟩) hHeld ?_
      simp only [Act.put, List.setIfInBounds_toArray, List.set_cons_zero, List.set_cons_succ]
      refine wpAnyH_take (i := 20) (oi := { dst := some 69, op := Go.Op.move (Go.Operand.tmp 4), type := 4, pos := "l11_net.go:10", after := #[{ on := 19, ground := Go.Ground.guard }], guard := some (19, true) }) (v := undef) rfl (by kernel_rfl) (by kernel_rfl) (by kernel_rfl) (fun _ _ _ h => h) (Or.inr ⟨by rfl, rfl⟩) hHeld ?_
      simp only [Act.put, List.setIfInBounds_toArray, List.set_cons_zero, List.set_cons_succ]
      refine wpAnyH_take (i := 21) (oi := { dst := some 70, op := Go.Op.unOp Go.UnOp.not 4 (Go.Operand.tmp 69), type := 4, pos := "l11_net.go:10", after := #[{ on := 20, ground := Go.Ground.data }, { on := 19, ground := Go.Ground.guard }], guard := some (19, true) }) (v := undef) rfl (by kernel_rfl) (by kernel_rfl) (by kernel_rfl) (fun _ _ _ h => h) (Or.inr ⟨by rfl, rfl⟩) hHeld ?_
      simp only [Act.put, List.setIfInBounds_toArray, List.set_cons_zero, List.set_cons_succ]
      refine wpAnyH_take (i := 22) (oi := { dst := some 71, op := Go.Op.pick (Go.Operand.tmp 68) (Go.Operand.tmp 70) (Go.Operand.const (Go.Value.bool false)), type := 4, pos := "l11_net.go:10", after := #[{ on := 19, ground := Go.Ground.data }, { on := 21, ground := Go.Ground.data }, { on := 17, ground := Go.Ground.guard }], guard := some (17, false) }) (v := undef) rfl (by kernel_rfl) (by kernel_rfl) (by kernel_rfl) (fun _ _ _ h => h) (Or.inr ⟨by rfl, rfl⟩) hHeld ?_
      simp only [Act.put, List.setIfInBounds_toArray, List.set_cons_zero, List.set_cons_succ]
      refine wpAnyH_take (i := 23) (oi := { dst := some 72, op := Go.Op.pick (Go.Operand.tmp 66) (Go.Operand.const (Go.Value.bool true)) (Go.Operand.tmp 71), type := 4, pos := "l11_net.go:10", after := #[{ on := 17, ground := Go.Ground.data }, { on := 22, ground := Go.Ground.data }], guard := none }) (v := ?va23_23) rfl (by kernel_rfl) (by kernel_rfl) (by kernel_rfl) (fun _ _ _ h => h) (Or.inl ⟨by rfl, ?ha23_23⟩) hHeld ?ra23_23
      case ha23_23 =>
        intro wS hSw
        (try dsimp only at hSw)
        go_simp
        try with_reducible rfl
      case ra23_23 =>
      simp only [Act.put, List.setIfInBounds_toArray, List.set_cons_zero, List.set_cons_succ]
      refine wpAnyH_done (by kernel_rfl) ?_ _
      refine NoPanic.normal ?_
      have HB9 := hide hHeld
      clear hHeld
      go_wp2_with fail
      go_ret
      exact ⟨by rw [unhide HF]; rfl, unhide HB9⟩
    · cases e1 : (x.src == x.dst)
      · cases e2 : (x.kind == 2)
        · have HRS := hide (mf_rest1 d1 e1 e2)
          go_upto_region 3 with fail
          refine wp_region_noPanic ?_
          refine wp_region_held_drew (S := fun w' => Below wc.heap.size wc w') (by kernel_rfl) (Below.refl _ _).drew (fun hHeld => ?_)
          generalize wc.drew = wD at hHeld ⊢
          refine wpAnyH_take (i := 0) (oi := { dst := some 49, op := Go.Op.move (Go.Operand.tmp 0), type := 40, pos := "l11_net.go:10", after := #[], guard := none }) (v := ?vc0_1) rfl (by kernel_rfl) (by kernel_rfl) (by kernel_rfl) (fun _ _ _ h => h) (Or.inl ⟨by rfl, ?hc0_1⟩) hHeld ?rc0_1
          case hc0_1 =>
            intro wS hSw
            (try dsimp only at hSw)
            go_simp
            try with_reducible rfl
          case rc0_1 =>
          simp only [Act.put, List.setIfInBounds_toArray, List.set_cons_zero, List.set_cons_succ]
          refine wpAnyH_take (i := 1) (oi := { dst := some 50, op := Go.Op.nilCheck (Go.Operand.tmp 49), type := 0, pos := "l11_net.go:10", after := #[{ on := 0, ground := Go.Ground.data }], guard := none }) (v := ?vc1_2) rfl (by kernel_rfl) (by kernel_rfl) (by kernel_rfl) (fun _ _ _ h => h) (Or.inl ⟨by rfl, ?hc1_2⟩) hHeld ?rc1_2
          case hc1_2 =>
            intro wS hSw
            (try dsimp only at hSw)
            go_simp
            try with_reducible rfl
          case rc1_2 =>
          simp only [Act.put, List.setIfInBounds_toArray, List.set_cons_zero, List.set_cons_succ]
          refine wpAnyH_take (i := 2) (oi := { dst := some 51, op := Go.Op.fieldAddr 33 (Go.Operand.tmp 50) 0, type := 0, pos := "l11_net.go:10", after := #[{ on := 1, ground := Go.Ground.data }], guard := none }) (v := ?vc2_3) rfl (by kernel_rfl) (by kernel_rfl) (by kernel_rfl) (fun _ _ _ h => h) (Or.inl ⟨by rfl, ?hc2_3⟩) hHeld ?rc2_3
          case hc2_3 =>
            intro wS hSw
            (try dsimp only at hSw)
            go_simp
            try with_reducible rfl
          case rc2_3 =>
          simp only [Act.put, List.setIfInBounds_toArray, List.set_cons_zero, List.set_cons_succ]
          refine wpAnyH_take (i := 3) (oi := { dst := some 52, op := Go.Op.load 2 (Go.Operand.tmp 51), type := 2, pos := "l11_net.go:10", after := #[{ on := 2, ground := Go.Ground.data }], guard := none }) (v := ?vc3_4) rfl (by kernel_rfl) (by kernel_rfl) (by kernel_rfl) (fun _ _ _ h => h) (Or.inl ⟨by rfl, ?hc3_4⟩) hHeld ?rc3_4
          case hc3_4 =>
            intro wS hSw
            have q0 := (hSw.cell (p := ⟨b, o, none⟩) hb).trans c0
            clear hSw
            (try dsimp only at hSw)
            go_simp
            try with_reducible rfl
          case rc3_4 =>
          simp only [Act.put, List.setIfInBounds_toArray, List.set_cons_zero, List.set_cons_succ]
          refine wpAnyH_ready (rs := [4]) (by kernel_rfl) (by simp) ?_
          refine AllReadyH.cons (o := { dst := some 53, op := Go.Op.call { callee := Go.Callee.value (Go.Operand.func 21), args := #[Go.Operand.tmp 52, Go.Operand.const (Go.Value.int Go.IntKind.i64 1), Go.Operand.const (Go.Value.int Go.IntKind.i64 2)], argTypes := #[2, 2, 2] }, type := 4, pos := "l11_net.go:10", after := #[{ on := 3, ground := Go.Ground.data }], guard := none }) rfl (fun K hK => ?_) AllReadyH.nil
          go_simp
          go_at_call 21
          refine (inC x.kind 1 2 _).mono ?_
          rintro e w1 ⟨rfl, h1⟩
          subst w1
          rw [d1]
          try go_wp2_with fail
          refine hK.out _ _ hHeld (fun hHeld => ?_)
          clear hK K
          try simp only [Act.put, List.setIfInBounds_toArray, List.set_cons_zero, List.set_cons_succ]
          refine wpAnyH_take (i := 5) (oi := { dst := some 54, op := Go.Op.unOp Go.UnOp.not 4 (Go.Operand.tmp 53), type := 4, pos := "l11_net.go:10", after := #[{ on := 4, ground := Go.Ground.data }], guard := none }) (v := ?vc5_5) rfl (by kernel_rfl) (by kernel_rfl) (by kernel_rfl) (fun _ _ _ h => h) (Or.inl ⟨by rfl, ?hc5_5⟩) hHeld ?rc5_5
          case hc5_5 =>
            intro wS hSw
            (try dsimp only at hSw)
            go_simp
            try with_reducible rfl
          case rc5_5 =>
          simp only [Act.put, List.setIfInBounds_toArray, List.set_cons_zero, List.set_cons_succ]
          refine wpAnyH_take (i := 6) (oi := { dst := some 55, op := Go.Op.move (Go.Operand.tmp 54), type := 4, pos := "l11_net.go:10", after := #[{ on := 5, ground := Go.Ground.data }, { on := 4, ground := Go.Ground.chain }], guard := none }) (v := ?vc6_6) rfl (by kernel_rfl) (by kernel_rfl) (by kernel_rfl) (fun _ _ _ h => h) (Or.inl ⟨by rfl, ?hc6_6⟩) hHeld ?rc6_6
          case hc6_6 =>
            intro wS hSw
            (try dsimp only at hSw)
            go_simp
            try with_reducible rfl
          case rc6_6 =>
          simp only [Act.put, List.setIfInBounds_toArray, List.set_cons_zero, List.set_cons_succ]
          refine wpAnyH_take (i := 7) (oi := { dst := some 56, op := Go.Op.move (Go.Operand.tmp 0), type := 40, pos := "l11_net.go:10", after := #[{ on := 6, ground := Go.Ground.guard }], guard := some (6, false) }) (v := ?vc7_7) rfl (by kernel_rfl) (by kernel_rfl) (by kernel_rfl) (fun _ _ _ h => h) (Or.inl ⟨by rfl, ?hc7_7⟩) hHeld ?rc7_7
          case hc7_7 =>
            intro wS hSw
            (try dsimp only at hSw)
            go_simp
            try with_reducible rfl
          case rc7_7 =>
          simp only [Act.put, List.setIfInBounds_toArray, List.set_cons_zero, List.set_cons_succ]
          refine wpAnyH_take (i := 8) (oi := { dst := some 57, op := Go.Op.nilCheck (Go.Operand.tmp 56), type := 0, pos := "l11_net.go:10", after := #[{ on := 7, ground := Go.Ground.data }, { on := 6, ground := Go.Ground.guard }], guard := some (6, false) }) (v := ?vc8_8) rfl (by kernel_rfl) (by kernel_rfl) (by kernel_rfl) (fun _ _ _ h => h) (Or.inl ⟨by rfl, ?hc8_8⟩) hHeld ?rc8_8
          case hc8_8 =>
            intro wS hSw
            (try dsimp only at hSw)
            go_simp
            try with_reducible rfl
          case rc8_8 =>
          simp only [Act.put, List.setIfInBounds_toArray, List.set_cons_zero, List.set_cons_succ]
          refine wpAnyH_take (i := 9) (oi := { dst := some 58, op := Go.Op.fieldAddr 33 (Go.Operand.tmp 57) 2, type := 0, pos := "l11_net.go:10", after := #[{ on := 8, ground := Go.Ground.data }, { on := 6, ground := Go.Ground.guard }], guard := some (6, false) }) (v := ?vc9_9) rfl (by kernel_rfl) (by kernel_rfl) (by kernel_rfl) (fun _ _ _ h => h) (Or.inl ⟨by rfl, ?hc9_9⟩) hHeld ?rc9_9
          case hc9_9 =>
            intro wS hSw
            (try dsimp only at hSw)
            go_simp
            try with_reducible rfl
          case rc9_9 =>
          simp only [Act.put, List.setIfInBounds_toArray, List.set_cons_zero, List.set_cons_succ]
          refine wpAnyH_take (i := 10) (oi := { dst := some 59, op := Go.Op.load 2 (Go.Operand.tmp 58), type := 2, pos := "l11_net.go:10", after := #[{ on := 9, ground := Go.Ground.data }, { on := 6, ground := Go.Ground.guard }], guard := some (6, false) }) (v := ?vc10_10) rfl (by kernel_rfl) (by kernel_rfl) (by kernel_rfl) (fun _ _ _ h => h) (Or.inl ⟨by rfl, ?hc10_10⟩) hHeld ?rc10_10
          case hc10_10 =>
            intro wS hSw
            have q2 := (hSw.cell (p := ⟨b, o + 2, none⟩) hb).trans c2
            clear hSw
            (try dsimp only at hSw)
            go_simp
            try with_reducible rfl
          case rc10_10 =>
          simp only [Act.put, List.setIfInBounds_toArray, List.set_cons_zero, List.set_cons_succ]
          refine wpAnyH_take (i := 11) (oi := { dst := some 60, op := Go.Op.move (Go.Operand.tmp 0), type := 40, pos := "l11_net.go:10", after := #[{ on := 6, ground := Go.Ground.guard }], guard := some (6, false) }) (v := ?vc11_11) rfl (by kernel_rfl) (by kernel_rfl) (by kernel_rfl) (fun _ _ _ h => h) (Or.inl ⟨by rfl, ?hc11_11⟩) hHeld ?rc11_11
          case hc11_11 =>
            intro wS hSw
            (try dsimp only at hSw)
            go_simp
            try with_reducible rfl
          case rc11_11 =>
          simp only [Act.put, List.setIfInBounds_toArray, List.set_cons_zero, List.set_cons_succ]
          refine wpAnyH_take (i := 12) (oi := { dst := some 61, op := Go.Op.nilCheck (Go.Operand.tmp 60), type := 0, pos := "l11_net.go:10", after := #[{ on := 11, ground := Go.Ground.data }, { on := 6, ground := Go.Ground.guard }], guard := some (6, false) }) (v := ?vc12_12) rfl (by kernel_rfl) (by kernel_rfl) (by kernel_rfl) (fun _ _ _ h => h) (Or.inl ⟨by rfl, ?hc12_12⟩) hHeld ?rc12_12
          case hc12_12 =>
            intro wS hSw
            (try dsimp only at hSw)
            go_simp
            try with_reducible rfl
          case rc12_12 =>
          simp only [Act.put, List.setIfInBounds_toArray, List.set_cons_zero, List.set_cons_succ]
          refine wpAnyH_take (i := 13) (oi := { dst := some 62, op := Go.Op.fieldAddr 33 (Go.Operand.tmp 61) 3, type := 0, pos := "l11_net.go:10", after := #[{ on := 12, ground := Go.Ground.data }, { on := 6, ground := Go.Ground.guard }], guard := some (6, false) }) (v := ?vc13_13) rfl (by kernel_rfl) (by kernel_rfl) (by kernel_rfl) (fun _ _ _ h => h) (Or.inl ⟨by rfl, ?hc13_13⟩) hHeld ?rc13_13
          case hc13_13 =>
            intro wS hSw
            (try dsimp only at hSw)
            go_simp
            try with_reducible rfl
          case rc13_13 =>
          simp only [Act.put, List.setIfInBounds_toArray, List.set_cons_zero, List.set_cons_succ]
          refine wpAnyH_take (i := 14) (oi := { dst := some 63, op := Go.Op.load 2 (Go.Operand.tmp 62), type := 2, pos := "l11_net.go:10", after := #[{ on := 13, ground := Go.Ground.data }, { on := 6, ground := Go.Ground.guard }], guard := some (6, false) }) (v := ?vc14_14) rfl (by kernel_rfl) (by kernel_rfl) (by kernel_rfl) (fun _ _ _ h => h) (Or.inl ⟨by rfl, ?hc14_14⟩) hHeld ?rc14_14
          case hc14_14 =>
            intro wS hSw
            have q3 := (hSw.cell (p := ⟨b, o + 3, none⟩) hb).trans c3
            clear hSw
            (try dsimp only at hSw)
            go_simp
            try with_reducible rfl
          case rc14_14 =>
          simp only [Act.put, List.setIfInBounds_toArray, List.set_cons_zero, List.set_cons_succ]
          refine wpAnyH_take (i := 15) (oi := { dst := some 64, op := Go.Op.binOp Go.BinOp.eql 2 (Go.Operand.tmp 59) (Go.Operand.tmp 63) 2, type := 4, pos := "l11_net.go:10", after := #[{ on := 10, ground := Go.Ground.data }, { on := 14, ground := Go.Ground.data }, { on := 6, ground := Go.Ground.guard }], guard := some (6, false) }) (v := ?vc15_15) rfl (by kernel_rfl) (by kernel_rfl) (by kernel_rfl) (fun _ _ _ h => h) (Or.inl ⟨by rfl, ?hc15_15⟩) hHeld ?rc15_15
          case hc15_15 =>
            intro wS hSw
            (try dsimp only at hSw)
            go_simp
            try with_reducible rfl
          case rc15_15 =>
          simp only [Act.put, List.setIfInBounds_toArray, List.set_cons_zero, List.set_cons_succ]
          refine wpAnyH_take (i := 16) (oi := { dst := some 65, op := Go.Op.pick (Go.Operand.tmp 55) (Go.Operand.const (Go.Value.bool true)) (Go.Operand.tmp 64), type := 4, pos := "l11_net.go:10", after := #[{ on := 6, ground := Go.Ground.data }, { on := 15, ground := Go.Ground.data }], guard := none }) (v := ?vc16_16) rfl (by kernel_rfl) (by kernel_rfl) (by kernel_rfl) (fun _ _ _ h => h) (Or.inl ⟨by rfl, ?hc16_16⟩) hHeld ?rc16_16
          case hc16_16 =>
            intro wS hSw
            (try dsimp only at hSw)
            go_simp
            try with_reducible rfl
          case rc16_16 =>
          simp only [Act.put, List.setIfInBounds_toArray, List.set_cons_zero, List.set_cons_succ]
          refine wpAnyH_take (i := 17) (oi := { dst := some 66, op := Go.Op.move (Go.Operand.tmp 65), type := 4, pos := "l11_net.go:10", after := #[{ on := 16, ground := Go.Ground.data }, { on := 6, ground := Go.Ground.chain }], guard := none }) (v := ?vc17_17) rfl (by kernel_rfl) (by kernel_rfl) (by kernel_rfl) (fun _ _ _ h => h) (Or.inl ⟨by rfl, ?hc17_17⟩) hHeld ?rc17_17
          case hc17_17 =>
            intro wS hSw
            (try dsimp only at hSw)
            go_simp
            try with_reducible rfl
          case rc17_17 =>
          simp only [Act.put, List.setIfInBounds_toArray, List.set_cons_zero, List.set_cons_succ]
          refine wpAnyH_take (i := 18) (oi := { dst := some 67, op := Go.Op.move (Go.Operand.tmp 3), type := 4, pos := "l11_net.go:10", after := #[{ on := 17, ground := Go.Ground.guard }], guard := some (17, false) }) (v := ?vc18_18) rfl (by kernel_rfl) (by kernel_rfl) (by kernel_rfl) (fun _ _ _ h => h) (Or.inl ⟨by rfl, ?hc18_18⟩) hHeld ?rc18_18
          case hc18_18 =>
            intro wS hSw
            (try dsimp only at hSw)
            go_simp
            try with_reducible rfl
          case rc18_18 =>
          simp only [Act.put, List.setIfInBounds_toArray, List.set_cons_zero, List.set_cons_succ]
          refine wpAnyH_take (i := 19) (oi := { dst := some 68, op := Go.Op.move (Go.Operand.tmp 67), type := 4, pos := "l11_net.go:10", after := #[{ on := 18, ground := Go.Ground.data }, { on := 17, ground := Go.Ground.chain }, { on := 17, ground := Go.Ground.guard }], guard := some (17, false) }) (v := ?vc19_19) rfl (by kernel_rfl) (by kernel_rfl) (by kernel_rfl) (fun _ _ _ h => h) (Or.inl ⟨by rfl, ?hc19_19⟩) hHeld ?rc19_19
          case hc19_19 =>
            intro wS hSw
            (try dsimp only at hSw)
            go_simp
            try with_reducible rfl
          case rc19_19 =>
          simp only [Act.put, List.setIfInBounds_toArray, List.set_cons_zero, List.set_cons_succ]
          refine wpAnyH_take (i := 20) (oi := { dst := some 69, op := Go.Op.move (Go.Operand.tmp 4), type := 4, pos := "l11_net.go:10", after := #[{ on := 19, ground := Go.Ground.guard }], guard := some (19, true) }) (v := undef) rfl (by kernel_rfl) (by kernel_rfl) (by kernel_rfl) (fun _ _ _ h => h) (Or.inr ⟨by rfl, rfl⟩) hHeld ?_
          simp only [Act.put, List.setIfInBounds_toArray, List.set_cons_zero, List.set_cons_succ]
          refine wpAnyH_take (i := 21) (oi := { dst := some 70, op := Go.Op.unOp Go.UnOp.not 4 (Go.Operand.tmp 69), type := 4, pos := "l11_net.go:10", after := #[{ on := 20, ground := Go.Ground.data }, { on := 19, ground := Go.Ground.guard }], guard := some (19, true) }) (v := undef) rfl (by kernel_rfl) (by kernel_rfl) (by kernel_rfl) (fun _ _ _ h => h) (Or.inr ⟨by rfl, rfl⟩) hHeld ?_
          simp only [Act.put, List.setIfInBounds_toArray, List.set_cons_zero, List.set_cons_succ]
          refine wpAnyH_take (i := 22) (oi := { dst := some 71, op := Go.Op.pick (Go.Operand.tmp 68) (Go.Operand.tmp 70) (Go.Operand.const (Go.Value.bool false)), type := 4, pos := "l11_net.go:10", after := #[{ on := 19, ground := Go.Ground.data }, { on := 21, ground := Go.Ground.data }, { on := 17, ground := Go.Ground.guard }], guard := some (17, false) }) (v := ?vc22_22) rfl (by kernel_rfl) (by kernel_rfl) (by kernel_rfl) (fun _ _ _ h => h) (Or.inl ⟨by rfl, ?hc22_22⟩) hHeld ?rc22_22
          case hc22_22 =>
            intro wS hSw
            (try dsimp only at hSw)
            go_simp
            try with_reducible rfl
          case rc22_22 =>
          simp only [Act.put, List.setIfInBounds_toArray, List.set_cons_zero, List.set_cons_succ]
          refine wpAnyH_take (i := 23) (oi := { dst := some 72, op := Go.Op.pick (Go.Operand.tmp 66) (Go.Operand.const (Go.Value.bool true)) (Go.Operand.tmp 71), type := 4, pos := "l11_net.go:10", after := #[{ on := 17, ground := Go.Ground.data }, { on := 22, ground := Go.Ground.data }], guard := none }) (v := ?vc23_23) rfl (by kernel_rfl) (by kernel_rfl) (by kernel_rfl) (fun _ _ _ h => h) (Or.inl ⟨by rfl, ?hc23_23⟩) hHeld ?rc23_23
          case hc23_23 =>
            intro wS hSw
            (try dsimp only at hSw)
            go_simp
            try with_reducible rfl
          case rc23_23 =>
          simp only [Act.put, List.setIfInBounds_toArray, List.set_cons_zero, List.set_cons_succ]
          refine wpAnyH_done (by kernel_rfl) ?_ _
          refine NoPanic.normal ?_
          have HB9 := hHeld
          clear hHeld
          have c0 : wD.cell? ⟨b, o, none⟩ = some (.int .i64 x.kind) := (HB9.cell (p := ⟨b, o, none⟩) hb).trans c0
          have c1 : wD.cell? ⟨b, o + 1, none⟩ = some (.int .i64 x.epoch) := (HB9.cell (p := ⟨b, o + 1, none⟩) hb).trans c1
          have c2 : wD.cell? ⟨b, o + 2, none⟩ = some (.int .i64 x.src) := (HB9.cell (p := ⟨b, o + 2, none⟩) hb).trans c2
          have c3 : wD.cell? ⟨b, o + 3, none⟩ = some (.int .i64 x.dst) := (HB9.cell (p := ⟨b, o + 3, none⟩) hb).trans c3
          have c4 : wD.cell? ⟨b, o + 4, none⟩ = some (.int .i64 x.index) := (HB9.cell (p := ⟨b, o + 4, none⟩) hb).trans c4
          have c5 : wD.cell? ⟨b, o + 5, none⟩ = some (.int .i64 x.write.kind) := (HB9.cell (p := ⟨b, o + 5, none⟩) hb).trans c5
          have c6 : wD.cell? ⟨b, o + 5 + 1, none⟩ = some (.int .i64 x.write.id) := (HB9.cell (p := ⟨b, o + 5 + 1, none⟩) hb).trans c6
          have c7 : wD.cell? ⟨b, o + 5 + 2, none⟩ = some (.slice a x.write.vec.length d) := (HB9.cell (p := ⟨b, o + 5 + 2, none⟩) hb).trans c7
          have c8 : wD.cell? ⟨b, o + 5 + 3, none⟩ = some (.int .i64 x.write.session) := (HB9.cell (p := ⟨b, o + 5 + 3, none⟩) hb).trans c8
          have c9 : wD.cell? ⟨b, o + 5 + 4, none⟩ = some (.int .i64 x.write.seq) := (HB9.cell (p := ⟨b, o + 5 + 4, none⟩) hb).trans c9
          have HWD := hide ((unhide H).later HB9)
          replace hb : b < wD.heap.size := Nat.lt_of_lt_of_le hb HB9.size
          replace HB9 := hide HB9
          go_wp2_with fail
          refine (inC x.epoch 1 999 wD).mono ?_
          rintro e w1 ⟨rfl, h1⟩
          subst w1
          cases d10 : (decide (1 ≤ x.epoch) && decide (x.epoch ≤ 999))
          · have HF := hide ((unhide HRS).trans (mr_epoch d10))
            clear d10
            go_wp2_with fail
            go_ret
            exact ⟨by rw [unhide HF]; rfl, unhide HB9⟩
          · skip
            go_wp2_with fail
            refine (node10C x.src wD).mono ?_
            rintro e w1 ⟨rfl, h1⟩
            subst w1
            cases d12 : (decide (1 ≤ x.src) && decide (x.src ≤ 5))
            · have HF := hide ((unhide HRS).trans (mr_src d12))
              clear d12
              go_wp2_with fail
              go_ret
              exact ⟨by rw [unhide HF]; rfl, unhide HB9⟩
            · skip
              go_wp2_with fail
              refine (node10C x.dst wD).mono ?_
              rintro e w1 ⟨rfl, h1⟩
              subst w1
              cases d14 : (decide (1 ≤ x.dst) && decide (x.dst ≤ 5))
              · have HF := hide ((unhide HRS).trans (mr_dst d14))
                clear d14
                go_wp2_with fail
                go_ret
                exact ⟨by rw [unhide HF]; rfl, unhide HB9⟩
              · skip
                go_wp2_with fail
                refine (inC x.index 0 40 wD).mono ?_
                rintro e w1 ⟨rfl, h1⟩
                subst w1
                cases d16 : (decide (0 ≤ x.index) && decide (x.index ≤ 40))
                · have HF := hide ((unhide HRS).trans (mr_index d16))
                  clear d16
                  go_wp2_with fail
                  go_ret
                  exact ⟨by rw [unhide HF]; rfl, unhide HB9⟩
                · skip
                  cases e5 : (x.index == 0)
                  · have HF : Hid (msgFault x = wF x.write) := (unhide HRS).trans ((mr_ok d10 d12 d14 d16 (Or.inr e5)).trans (if_neg (by simpa using e2)))
                    clear d10 d12 d14 d16
                    go_wp2_with fail
                    refine (l3FaultO b (o + 5) x.write.kind x.write.id _ x.write.session x.write.seq x.write.vec wD ⟨c5, c6, c7, c8, c9⟩ (Lay.ints_reads (unhide HWD))).mono ?_
                    rintro e w1 ⟨rfl, h1⟩
                    subst w1
                    go_wp2_with fail
                    go_ret
                    exact ⟨by rw [unhide HF]; rfl, unhide HB9⟩
                  · have HF : Hid (msgFault x = 3) := (unhide HRS).trans (mr_zero e2 e5)
                    clear d10 d12 d14 d16
                    go_wp2_with fail
                    go_ret
                    exact ⟨by rw [unhide HF]; rfl, unhide HB9⟩
        · cases e3 : decide (noW x.write)
          · have HF := hide (mf_ack e2 e3)
            go_upto_region 3 with fail
            refine wp_region_noPanic ?_
            refine wp_region_held_drew (S := fun w' => Below wc.heap.size wc w') (by kernel_rfl) (Below.refl _ _).drew (fun hHeld => ?_)
            generalize wc.drew = wD at hHeld ⊢
            refine wpAnyH_take (i := 0) (oi := { dst := some 49, op := Go.Op.move (Go.Operand.tmp 0), type := 40, pos := "l11_net.go:10", after := #[], guard := none }) (v := ?vd0_1) rfl (by kernel_rfl) (by kernel_rfl) (by kernel_rfl) (fun _ _ _ h => h) (Or.inl ⟨by rfl, ?hd0_1⟩) hHeld ?rd0_1
            case hd0_1 =>
              intro wS hSw
              (try dsimp only at hSw)
              go_simp
              try with_reducible rfl
            case rd0_1 =>
            simp only [Act.put, List.setIfInBounds_toArray, List.set_cons_zero, List.set_cons_succ]
            refine wpAnyH_take (i := 1) (oi := { dst := some 50, op := Go.Op.nilCheck (Go.Operand.tmp 49), type := 0, pos := "l11_net.go:10", after := #[{ on := 0, ground := Go.Ground.data }], guard := none }) (v := ?vd1_2) rfl (by kernel_rfl) (by kernel_rfl) (by kernel_rfl) (fun _ _ _ h => h) (Or.inl ⟨by rfl, ?hd1_2⟩) hHeld ?rd1_2
            case hd1_2 =>
              intro wS hSw
              (try dsimp only at hSw)
              go_simp
              try with_reducible rfl
            case rd1_2 =>
            simp only [Act.put, List.setIfInBounds_toArray, List.set_cons_zero, List.set_cons_succ]
            refine wpAnyH_take (i := 2) (oi := { dst := some 51, op := Go.Op.fieldAddr 33 (Go.Operand.tmp 50) 0, type := 0, pos := "l11_net.go:10", after := #[{ on := 1, ground := Go.Ground.data }], guard := none }) (v := ?vd2_3) rfl (by kernel_rfl) (by kernel_rfl) (by kernel_rfl) (fun _ _ _ h => h) (Or.inl ⟨by rfl, ?hd2_3⟩) hHeld ?rd2_3
            case hd2_3 =>
              intro wS hSw
              (try dsimp only at hSw)
              go_simp
              try with_reducible rfl
            case rd2_3 =>
            simp only [Act.put, List.setIfInBounds_toArray, List.set_cons_zero, List.set_cons_succ]
            refine wpAnyH_take (i := 3) (oi := { dst := some 52, op := Go.Op.load 2 (Go.Operand.tmp 51), type := 2, pos := "l11_net.go:10", after := #[{ on := 2, ground := Go.Ground.data }], guard := none }) (v := ?vd3_4) rfl (by kernel_rfl) (by kernel_rfl) (by kernel_rfl) (fun _ _ _ h => h) (Or.inl ⟨by rfl, ?hd3_4⟩) hHeld ?rd3_4
            case hd3_4 =>
              intro wS hSw
              have q0 := (hSw.cell (p := ⟨b, o, none⟩) hb).trans c0
              clear hSw
              (try dsimp only at hSw)
              go_simp
              try with_reducible rfl
            case rd3_4 =>
            simp only [Act.put, List.setIfInBounds_toArray, List.set_cons_zero, List.set_cons_succ]
            refine wpAnyH_ready (rs := [4]) (by kernel_rfl) (by simp) ?_
            refine AllReadyH.cons (o := { dst := some 53, op := Go.Op.call { callee := Go.Callee.value (Go.Operand.func 21), args := #[Go.Operand.tmp 52, Go.Operand.const (Go.Value.int Go.IntKind.i64 1), Go.Operand.const (Go.Value.int Go.IntKind.i64 2)], argTypes := #[2, 2, 2] }, type := 4, pos := "l11_net.go:10", after := #[{ on := 3, ground := Go.Ground.data }], guard := none }) rfl (fun K hK => ?_) AllReadyH.nil
            go_simp
            go_at_call 21
            refine (inC x.kind 1 2 _).mono ?_
            rintro e w1 ⟨rfl, h1⟩
            subst w1
            rw [d1]
            try go_wp2_with fail
            refine hK.out _ _ hHeld (fun hHeld => ?_)
            clear hK K
            try simp only [Act.put, List.setIfInBounds_toArray, List.set_cons_zero, List.set_cons_succ]
            refine wpAnyH_take (i := 5) (oi := { dst := some 54, op := Go.Op.unOp Go.UnOp.not 4 (Go.Operand.tmp 53), type := 4, pos := "l11_net.go:10", after := #[{ on := 4, ground := Go.Ground.data }], guard := none }) (v := ?vd5_5) rfl (by kernel_rfl) (by kernel_rfl) (by kernel_rfl) (fun _ _ _ h => h) (Or.inl ⟨by rfl, ?hd5_5⟩) hHeld ?rd5_5
            case hd5_5 =>
              intro wS hSw
              (try dsimp only at hSw)
              go_simp
              try with_reducible rfl
            case rd5_5 =>
            simp only [Act.put, List.setIfInBounds_toArray, List.set_cons_zero, List.set_cons_succ]
            refine wpAnyH_take (i := 6) (oi := { dst := some 55, op := Go.Op.move (Go.Operand.tmp 54), type := 4, pos := "l11_net.go:10", after := #[{ on := 5, ground := Go.Ground.data }, { on := 4, ground := Go.Ground.chain }], guard := none }) (v := ?vd6_6) rfl (by kernel_rfl) (by kernel_rfl) (by kernel_rfl) (fun _ _ _ h => h) (Or.inl ⟨by rfl, ?hd6_6⟩) hHeld ?rd6_6
            case hd6_6 =>
              intro wS hSw
              (try dsimp only at hSw)
              go_simp
              try with_reducible rfl
            case rd6_6 =>
            simp only [Act.put, List.setIfInBounds_toArray, List.set_cons_zero, List.set_cons_succ]
            refine wpAnyH_take (i := 7) (oi := { dst := some 56, op := Go.Op.move (Go.Operand.tmp 0), type := 40, pos := "l11_net.go:10", after := #[{ on := 6, ground := Go.Ground.guard }], guard := some (6, false) }) (v := ?vd7_7) rfl (by kernel_rfl) (by kernel_rfl) (by kernel_rfl) (fun _ _ _ h => h) (Or.inl ⟨by rfl, ?hd7_7⟩) hHeld ?rd7_7
            case hd7_7 =>
              intro wS hSw
              (try dsimp only at hSw)
              go_simp
              try with_reducible rfl
            case rd7_7 =>
            simp only [Act.put, List.setIfInBounds_toArray, List.set_cons_zero, List.set_cons_succ]
            refine wpAnyH_take (i := 8) (oi := { dst := some 57, op := Go.Op.nilCheck (Go.Operand.tmp 56), type := 0, pos := "l11_net.go:10", after := #[{ on := 7, ground := Go.Ground.data }, { on := 6, ground := Go.Ground.guard }], guard := some (6, false) }) (v := ?vd8_8) rfl (by kernel_rfl) (by kernel_rfl) (by kernel_rfl) (fun _ _ _ h => h) (Or.inl ⟨by rfl, ?hd8_8⟩) hHeld ?rd8_8
            case hd8_8 =>
              intro wS hSw
              (try dsimp only at hSw)
              go_simp
              try with_reducible rfl
            case rd8_8 =>
            simp only [Act.put, List.setIfInBounds_toArray, List.set_cons_zero, List.set_cons_succ]
            refine wpAnyH_take (i := 9) (oi := { dst := some 58, op := Go.Op.fieldAddr 33 (Go.Operand.tmp 57) 2, type := 0, pos := "l11_net.go:10", after := #[{ on := 8, ground := Go.Ground.data }, { on := 6, ground := Go.Ground.guard }], guard := some (6, false) }) (v := ?vd9_9) rfl (by kernel_rfl) (by kernel_rfl) (by kernel_rfl) (fun _ _ _ h => h) (Or.inl ⟨by rfl, ?hd9_9⟩) hHeld ?rd9_9
            case hd9_9 =>
              intro wS hSw
              (try dsimp only at hSw)
              go_simp
              try with_reducible rfl
            case rd9_9 =>
            simp only [Act.put, List.setIfInBounds_toArray, List.set_cons_zero, List.set_cons_succ]
            refine wpAnyH_take (i := 10) (oi := { dst := some 59, op := Go.Op.load 2 (Go.Operand.tmp 58), type := 2, pos := "l11_net.go:10", after := #[{ on := 9, ground := Go.Ground.data }, { on := 6, ground := Go.Ground.guard }], guard := some (6, false) }) (v := ?vd10_10) rfl (by kernel_rfl) (by kernel_rfl) (by kernel_rfl) (fun _ _ _ h => h) (Or.inl ⟨by rfl, ?hd10_10⟩) hHeld ?rd10_10
            case hd10_10 =>
              intro wS hSw
              have q2 := (hSw.cell (p := ⟨b, o + 2, none⟩) hb).trans c2
              clear hSw
              (try dsimp only at hSw)
              go_simp
              try with_reducible rfl
            case rd10_10 =>
            simp only [Act.put, List.setIfInBounds_toArray, List.set_cons_zero, List.set_cons_succ]
            refine wpAnyH_take (i := 11) (oi := { dst := some 60, op := Go.Op.move (Go.Operand.tmp 0), type := 40, pos := "l11_net.go:10", after := #[{ on := 6, ground := Go.Ground.guard }], guard := some (6, false) }) (v := ?vd11_11) rfl (by kernel_rfl) (by kernel_rfl) (by kernel_rfl) (fun _ _ _ h => h) (Or.inl ⟨by rfl, ?hd11_11⟩) hHeld ?rd11_11
            case hd11_11 =>
              intro wS hSw
              (try dsimp only at hSw)
              go_simp
              try with_reducible rfl
            case rd11_11 =>
            simp only [Act.put, List.setIfInBounds_toArray, List.set_cons_zero, List.set_cons_succ]
            refine wpAnyH_take (i := 12) (oi := { dst := some 61, op := Go.Op.nilCheck (Go.Operand.tmp 60), type := 0, pos := "l11_net.go:10", after := #[{ on := 11, ground := Go.Ground.data }, { on := 6, ground := Go.Ground.guard }], guard := some (6, false) }) (v := ?vd12_12) rfl (by kernel_rfl) (by kernel_rfl) (by kernel_rfl) (fun _ _ _ h => h) (Or.inl ⟨by rfl, ?hd12_12⟩) hHeld ?rd12_12
            case hd12_12 =>
              intro wS hSw
              (try dsimp only at hSw)
              go_simp
              try with_reducible rfl
            case rd12_12 =>
            simp only [Act.put, List.setIfInBounds_toArray, List.set_cons_zero, List.set_cons_succ]
            refine wpAnyH_take (i := 13) (oi := { dst := some 62, op := Go.Op.fieldAddr 33 (Go.Operand.tmp 61) 3, type := 0, pos := "l11_net.go:10", after := #[{ on := 12, ground := Go.Ground.data }, { on := 6, ground := Go.Ground.guard }], guard := some (6, false) }) (v := ?vd13_13) rfl (by kernel_rfl) (by kernel_rfl) (by kernel_rfl) (fun _ _ _ h => h) (Or.inl ⟨by rfl, ?hd13_13⟩) hHeld ?rd13_13
            case hd13_13 =>
              intro wS hSw
              (try dsimp only at hSw)
              go_simp
              try with_reducible rfl
            case rd13_13 =>
            simp only [Act.put, List.setIfInBounds_toArray, List.set_cons_zero, List.set_cons_succ]
            refine wpAnyH_take (i := 14) (oi := { dst := some 63, op := Go.Op.load 2 (Go.Operand.tmp 62), type := 2, pos := "l11_net.go:10", after := #[{ on := 13, ground := Go.Ground.data }, { on := 6, ground := Go.Ground.guard }], guard := some (6, false) }) (v := ?vd14_14) rfl (by kernel_rfl) (by kernel_rfl) (by kernel_rfl) (fun _ _ _ h => h) (Or.inl ⟨by rfl, ?hd14_14⟩) hHeld ?rd14_14
            case hd14_14 =>
              intro wS hSw
              have q3 := (hSw.cell (p := ⟨b, o + 3, none⟩) hb).trans c3
              clear hSw
              (try dsimp only at hSw)
              go_simp
              try with_reducible rfl
            case rd14_14 =>
            simp only [Act.put, List.setIfInBounds_toArray, List.set_cons_zero, List.set_cons_succ]
            refine wpAnyH_take (i := 15) (oi := { dst := some 64, op := Go.Op.binOp Go.BinOp.eql 2 (Go.Operand.tmp 59) (Go.Operand.tmp 63) 2, type := 4, pos := "l11_net.go:10", after := #[{ on := 10, ground := Go.Ground.data }, { on := 14, ground := Go.Ground.data }, { on := 6, ground := Go.Ground.guard }], guard := some (6, false) }) (v := ?vd15_15) rfl (by kernel_rfl) (by kernel_rfl) (by kernel_rfl) (fun _ _ _ h => h) (Or.inl ⟨by rfl, ?hd15_15⟩) hHeld ?rd15_15
            case hd15_15 =>
              intro wS hSw
              (try dsimp only at hSw)
              go_simp
              try with_reducible rfl
            case rd15_15 =>
            simp only [Act.put, List.setIfInBounds_toArray, List.set_cons_zero, List.set_cons_succ]
            refine wpAnyH_take (i := 16) (oi := { dst := some 65, op := Go.Op.pick (Go.Operand.tmp 55) (Go.Operand.const (Go.Value.bool true)) (Go.Operand.tmp 64), type := 4, pos := "l11_net.go:10", after := #[{ on := 6, ground := Go.Ground.data }, { on := 15, ground := Go.Ground.data }], guard := none }) (v := ?vd16_16) rfl (by kernel_rfl) (by kernel_rfl) (by kernel_rfl) (fun _ _ _ h => h) (Or.inl ⟨by rfl, ?hd16_16⟩) hHeld ?rd16_16
            case hd16_16 =>
              intro wS hSw
              (try dsimp only at hSw)
              go_simp
              try with_reducible rfl
            case rd16_16 =>
            simp only [Act.put, List.setIfInBounds_toArray, List.set_cons_zero, List.set_cons_succ]
            refine wpAnyH_take (i := 17) (oi := { dst := some 66, op := Go.Op.move (Go.Operand.tmp 65), type := 4, pos := "l11_net.go:10", after := #[{ on := 16, ground := Go.Ground.data }, { on := 6, ground := Go.Ground.chain }], guard := none }) (v := ?vd17_17) rfl (by kernel_rfl) (by kernel_rfl) (by kernel_rfl) (fun _ _ _ h => h) (Or.inl ⟨by rfl, ?hd17_17⟩) hHeld ?rd17_17
            case hd17_17 =>
              intro wS hSw
              (try dsimp only at hSw)
              go_simp
              try with_reducible rfl
            case rd17_17 =>
            simp only [Act.put, List.setIfInBounds_toArray, List.set_cons_zero, List.set_cons_succ]
            refine wpAnyH_take (i := 18) (oi := { dst := some 67, op := Go.Op.move (Go.Operand.tmp 3), type := 4, pos := "l11_net.go:10", after := #[{ on := 17, ground := Go.Ground.guard }], guard := some (17, false) }) (v := ?vd18_18) rfl (by kernel_rfl) (by kernel_rfl) (by kernel_rfl) (fun _ _ _ h => h) (Or.inl ⟨by rfl, ?hd18_18⟩) hHeld ?rd18_18
            case hd18_18 =>
              intro wS hSw
              (try dsimp only at hSw)
              go_simp
              try with_reducible rfl
            case rd18_18 =>
            simp only [Act.put, List.setIfInBounds_toArray, List.set_cons_zero, List.set_cons_succ]
            refine wpAnyH_take (i := 19) (oi := { dst := some 68, op := Go.Op.move (Go.Operand.tmp 67), type := 4, pos := "l11_net.go:10", after := #[{ on := 18, ground := Go.Ground.data }, { on := 17, ground := Go.Ground.chain }, { on := 17, ground := Go.Ground.guard }], guard := some (17, false) }) (v := ?vd19_19) rfl (by kernel_rfl) (by kernel_rfl) (by kernel_rfl) (fun _ _ _ h => h) (Or.inl ⟨by rfl, ?hd19_19⟩) hHeld ?rd19_19
            case hd19_19 =>
              intro wS hSw
              (try dsimp only at hSw)
              go_simp
              try with_reducible rfl
            case rd19_19 =>
            simp only [Act.put, List.setIfInBounds_toArray, List.set_cons_zero, List.set_cons_succ]
            refine wpAnyH_take (i := 20) (oi := { dst := some 69, op := Go.Op.move (Go.Operand.tmp 4), type := 4, pos := "l11_net.go:10", after := #[{ on := 19, ground := Go.Ground.guard }], guard := some (19, true) }) (v := ?vd20_20) rfl (by kernel_rfl) (by kernel_rfl) (by kernel_rfl) (fun _ _ _ h => h) (Or.inl ⟨by rfl, ?hd20_20⟩) hHeld ?rd20_20
            case hd20_20 =>
              intro wS hSw
              (try dsimp only at hSw)
              go_simp
              try with_reducible rfl
            case rd20_20 =>
            simp only [Act.put, List.setIfInBounds_toArray, List.set_cons_zero, List.set_cons_succ]
            refine wpAnyH_take (i := 21) (oi := { dst := some 70, op := Go.Op.unOp Go.UnOp.not 4 (Go.Operand.tmp 69), type := 4, pos := "l11_net.go:10", after := #[{ on := 20, ground := Go.Ground.data }, { on := 19, ground := Go.Ground.guard }], guard := some (19, true) }) (v := ?vd21_21) rfl (by kernel_rfl) (by kernel_rfl) (by kernel_rfl) (fun _ _ _ h => h) (Or.inl ⟨by rfl, ?hd21_21⟩) hHeld ?rd21_21
            case hd21_21 =>
              intro wS hSw
              (try dsimp only at hSw)
              go_simp
              try with_reducible rfl
            case rd21_21 =>
            simp only [Act.put, List.setIfInBounds_toArray, List.set_cons_zero, List.set_cons_succ]
            refine wpAnyH_take (i := 22) (oi := { dst := some 71, op := Go.Op.pick (Go.Operand.tmp 68) (Go.Operand.tmp 70) (Go.Operand.const (Go.Value.bool false)), type := 4, pos := "l11_net.go:10", after := #[{ on := 19, ground := Go.Ground.data }, { on := 21, ground := Go.Ground.data }, { on := 17, ground := Go.Ground.guard }], guard := some (17, false) }) (v := ?vd22_22) rfl (by kernel_rfl) (by kernel_rfl) (by kernel_rfl) (fun _ _ _ h => h) (Or.inl ⟨by rfl, ?hd22_22⟩) hHeld ?rd22_22
            case hd22_22 =>
              intro wS hSw
              (try dsimp only at hSw)
              go_simp
              try with_reducible rfl
            case rd22_22 =>
            simp only [Act.put, List.setIfInBounds_toArray, List.set_cons_zero, List.set_cons_succ]
            refine wpAnyH_take (i := 23) (oi := { dst := some 72, op := Go.Op.pick (Go.Operand.tmp 66) (Go.Operand.const (Go.Value.bool true)) (Go.Operand.tmp 71), type := 4, pos := "l11_net.go:10", after := #[{ on := 17, ground := Go.Ground.data }, { on := 22, ground := Go.Ground.data }], guard := none }) (v := ?vd23_23) rfl (by kernel_rfl) (by kernel_rfl) (by kernel_rfl) (fun _ _ _ h => h) (Or.inl ⟨by rfl, ?hd23_23⟩) hHeld ?rd23_23
            case hd23_23 =>
              intro wS hSw
              (try dsimp only at hSw)
              go_simp
              try with_reducible rfl
            case rd23_23 =>
            simp only [Act.put, List.setIfInBounds_toArray, List.set_cons_zero, List.set_cons_succ]
            refine wpAnyH_done (by kernel_rfl) ?_ _
            refine NoPanic.normal ?_
            have HB9 := hide hHeld
            clear hHeld
            go_wp2_with fail
            go_ret
            exact ⟨by rw [unhide HF]; rfl, unhide HB9⟩
          · have HRS := hide (mf_rest2 d1 e1 e3)
            go_upto_region 3 with fail
            refine wp_region_noPanic ?_
            refine wp_region_held_drew (S := fun w' => Below wc.heap.size wc w') (by kernel_rfl) (Below.refl _ _).drew (fun hHeld => ?_)
            generalize wc.drew = wD at hHeld ⊢
            refine wpAnyH_take (i := 0) (oi := { dst := some 49, op := Go.Op.move (Go.Operand.tmp 0), type := 40, pos := "l11_net.go:10", after := #[], guard := none }) (v := ?ve0_1) rfl (by kernel_rfl) (by kernel_rfl) (by kernel_rfl) (fun _ _ _ h => h) (Or.inl ⟨by rfl, ?he0_1⟩) hHeld ?re0_1
            case he0_1 =>
              intro wS hSw
              (try dsimp only at hSw)
              go_simp
              try with_reducible rfl
            case re0_1 =>
            simp only [Act.put, List.setIfInBounds_toArray, List.set_cons_zero, List.set_cons_succ]
            refine wpAnyH_take (i := 1) (oi := { dst := some 50, op := Go.Op.nilCheck (Go.Operand.tmp 49), type := 0, pos := "l11_net.go:10", after := #[{ on := 0, ground := Go.Ground.data }], guard := none }) (v := ?ve1_2) rfl (by kernel_rfl) (by kernel_rfl) (by kernel_rfl) (fun _ _ _ h => h) (Or.inl ⟨by rfl, ?he1_2⟩) hHeld ?re1_2
            case he1_2 =>
              intro wS hSw
              (try dsimp only at hSw)
              go_simp
              try with_reducible rfl
            case re1_2 =>
            simp only [Act.put, List.setIfInBounds_toArray, List.set_cons_zero, List.set_cons_succ]
            refine wpAnyH_take (i := 2) (oi := { dst := some 51, op := Go.Op.fieldAddr 33 (Go.Operand.tmp 50) 0, type := 0, pos := "l11_net.go:10", after := #[{ on := 1, ground := Go.Ground.data }], guard := none }) (v := ?ve2_3) rfl (by kernel_rfl) (by kernel_rfl) (by kernel_rfl) (fun _ _ _ h => h) (Or.inl ⟨by rfl, ?he2_3⟩) hHeld ?re2_3
            case he2_3 =>
              intro wS hSw
              (try dsimp only at hSw)
              go_simp
              try with_reducible rfl
            case re2_3 =>
            simp only [Act.put, List.setIfInBounds_toArray, List.set_cons_zero, List.set_cons_succ]
            refine wpAnyH_take (i := 3) (oi := { dst := some 52, op := Go.Op.load 2 (Go.Operand.tmp 51), type := 2, pos := "l11_net.go:10", after := #[{ on := 2, ground := Go.Ground.data }], guard := none }) (v := ?ve3_4) rfl (by kernel_rfl) (by kernel_rfl) (by kernel_rfl) (fun _ _ _ h => h) (Or.inl ⟨by rfl, ?he3_4⟩) hHeld ?re3_4
            case he3_4 =>
              intro wS hSw
              have q0 := (hSw.cell (p := ⟨b, o, none⟩) hb).trans c0
              clear hSw
              (try dsimp only at hSw)
              go_simp
              try with_reducible rfl
            case re3_4 =>
            simp only [Act.put, List.setIfInBounds_toArray, List.set_cons_zero, List.set_cons_succ]
            refine wpAnyH_ready (rs := [4]) (by kernel_rfl) (by simp) ?_
            refine AllReadyH.cons (o := { dst := some 53, op := Go.Op.call { callee := Go.Callee.value (Go.Operand.func 21), args := #[Go.Operand.tmp 52, Go.Operand.const (Go.Value.int Go.IntKind.i64 1), Go.Operand.const (Go.Value.int Go.IntKind.i64 2)], argTypes := #[2, 2, 2] }, type := 4, pos := "l11_net.go:10", after := #[{ on := 3, ground := Go.Ground.data }], guard := none }) rfl (fun K hK => ?_) AllReadyH.nil
            go_simp
            go_at_call 21
            refine (inC x.kind 1 2 _).mono ?_
            rintro e w1 ⟨rfl, h1⟩
            subst w1
            rw [d1]
            try go_wp2_with fail
            refine hK.out _ _ hHeld (fun hHeld => ?_)
            clear hK K
            try simp only [Act.put, List.setIfInBounds_toArray, List.set_cons_zero, List.set_cons_succ]
            refine wpAnyH_take (i := 5) (oi := { dst := some 54, op := Go.Op.unOp Go.UnOp.not 4 (Go.Operand.tmp 53), type := 4, pos := "l11_net.go:10", after := #[{ on := 4, ground := Go.Ground.data }], guard := none }) (v := ?ve5_5) rfl (by kernel_rfl) (by kernel_rfl) (by kernel_rfl) (fun _ _ _ h => h) (Or.inl ⟨by rfl, ?he5_5⟩) hHeld ?re5_5
            case he5_5 =>
              intro wS hSw
              (try dsimp only at hSw)
              go_simp
              try with_reducible rfl
            case re5_5 =>
            simp only [Act.put, List.setIfInBounds_toArray, List.set_cons_zero, List.set_cons_succ]
            refine wpAnyH_take (i := 6) (oi := { dst := some 55, op := Go.Op.move (Go.Operand.tmp 54), type := 4, pos := "l11_net.go:10", after := #[{ on := 5, ground := Go.Ground.data }, { on := 4, ground := Go.Ground.chain }], guard := none }) (v := ?ve6_6) rfl (by kernel_rfl) (by kernel_rfl) (by kernel_rfl) (fun _ _ _ h => h) (Or.inl ⟨by rfl, ?he6_6⟩) hHeld ?re6_6
            case he6_6 =>
              intro wS hSw
              (try dsimp only at hSw)
              go_simp
              try with_reducible rfl
            case re6_6 =>
            simp only [Act.put, List.setIfInBounds_toArray, List.set_cons_zero, List.set_cons_succ]
            refine wpAnyH_take (i := 7) (oi := { dst := some 56, op := Go.Op.move (Go.Operand.tmp 0), type := 40, pos := "l11_net.go:10", after := #[{ on := 6, ground := Go.Ground.guard }], guard := some (6, false) }) (v := ?ve7_7) rfl (by kernel_rfl) (by kernel_rfl) (by kernel_rfl) (fun _ _ _ h => h) (Or.inl ⟨by rfl, ?he7_7⟩) hHeld ?re7_7
            case he7_7 =>
              intro wS hSw
              (try dsimp only at hSw)
              go_simp
              try with_reducible rfl
            case re7_7 =>
            simp only [Act.put, List.setIfInBounds_toArray, List.set_cons_zero, List.set_cons_succ]
            refine wpAnyH_take (i := 8) (oi := { dst := some 57, op := Go.Op.nilCheck (Go.Operand.tmp 56), type := 0, pos := "l11_net.go:10", after := #[{ on := 7, ground := Go.Ground.data }, { on := 6, ground := Go.Ground.guard }], guard := some (6, false) }) (v := ?ve8_8) rfl (by kernel_rfl) (by kernel_rfl) (by kernel_rfl) (fun _ _ _ h => h) (Or.inl ⟨by rfl, ?he8_8⟩) hHeld ?re8_8
            case he8_8 =>
              intro wS hSw
              (try dsimp only at hSw)
              go_simp
              try with_reducible rfl
            case re8_8 =>
            simp only [Act.put, List.setIfInBounds_toArray, List.set_cons_zero, List.set_cons_succ]
            refine wpAnyH_take (i := 9) (oi := { dst := some 58, op := Go.Op.fieldAddr 33 (Go.Operand.tmp 57) 2, type := 0, pos := "l11_net.go:10", after := #[{ on := 8, ground := Go.Ground.data }, { on := 6, ground := Go.Ground.guard }], guard := some (6, false) }) (v := ?ve9_9) rfl (by kernel_rfl) (by kernel_rfl) (by kernel_rfl) (fun _ _ _ h => h) (Or.inl ⟨by rfl, ?he9_9⟩) hHeld ?re9_9
            case he9_9 =>
              intro wS hSw
              (try dsimp only at hSw)
              go_simp
              try with_reducible rfl
            case re9_9 =>
            simp only [Act.put, List.setIfInBounds_toArray, List.set_cons_zero, List.set_cons_succ]
            refine wpAnyH_take (i := 10) (oi := { dst := some 59, op := Go.Op.load 2 (Go.Operand.tmp 58), type := 2, pos := "l11_net.go:10", after := #[{ on := 9, ground := Go.Ground.data }, { on := 6, ground := Go.Ground.guard }], guard := some (6, false) }) (v := ?ve10_10) rfl (by kernel_rfl) (by kernel_rfl) (by kernel_rfl) (fun _ _ _ h => h) (Or.inl ⟨by rfl, ?he10_10⟩) hHeld ?re10_10
            case he10_10 =>
              intro wS hSw
              have q2 := (hSw.cell (p := ⟨b, o + 2, none⟩) hb).trans c2
              clear hSw
              (try dsimp only at hSw)
              go_simp
              try with_reducible rfl
            case re10_10 =>
            simp only [Act.put, List.setIfInBounds_toArray, List.set_cons_zero, List.set_cons_succ]
            refine wpAnyH_take (i := 11) (oi := { dst := some 60, op := Go.Op.move (Go.Operand.tmp 0), type := 40, pos := "l11_net.go:10", after := #[{ on := 6, ground := Go.Ground.guard }], guard := some (6, false) }) (v := ?ve11_11) rfl (by kernel_rfl) (by kernel_rfl) (by kernel_rfl) (fun _ _ _ h => h) (Or.inl ⟨by rfl, ?he11_11⟩) hHeld ?re11_11
            case he11_11 =>
              intro wS hSw
              (try dsimp only at hSw)
              go_simp
              try with_reducible rfl
            case re11_11 =>
            simp only [Act.put, List.setIfInBounds_toArray, List.set_cons_zero, List.set_cons_succ]
            refine wpAnyH_take (i := 12) (oi := { dst := some 61, op := Go.Op.nilCheck (Go.Operand.tmp 60), type := 0, pos := "l11_net.go:10", after := #[{ on := 11, ground := Go.Ground.data }, { on := 6, ground := Go.Ground.guard }], guard := some (6, false) }) (v := ?ve12_12) rfl (by kernel_rfl) (by kernel_rfl) (by kernel_rfl) (fun _ _ _ h => h) (Or.inl ⟨by rfl, ?he12_12⟩) hHeld ?re12_12
            case he12_12 =>
              intro wS hSw
              (try dsimp only at hSw)
              go_simp
              try with_reducible rfl
            case re12_12 =>
            simp only [Act.put, List.setIfInBounds_toArray, List.set_cons_zero, List.set_cons_succ]
            refine wpAnyH_take (i := 13) (oi := { dst := some 62, op := Go.Op.fieldAddr 33 (Go.Operand.tmp 61) 3, type := 0, pos := "l11_net.go:10", after := #[{ on := 12, ground := Go.Ground.data }, { on := 6, ground := Go.Ground.guard }], guard := some (6, false) }) (v := ?ve13_13) rfl (by kernel_rfl) (by kernel_rfl) (by kernel_rfl) (fun _ _ _ h => h) (Or.inl ⟨by rfl, ?he13_13⟩) hHeld ?re13_13
            case he13_13 =>
              intro wS hSw
              (try dsimp only at hSw)
              go_simp
              try with_reducible rfl
            case re13_13 =>
            simp only [Act.put, List.setIfInBounds_toArray, List.set_cons_zero, List.set_cons_succ]
            refine wpAnyH_take (i := 14) (oi := { dst := some 63, op := Go.Op.load 2 (Go.Operand.tmp 62), type := 2, pos := "l11_net.go:10", after := #[{ on := 13, ground := Go.Ground.data }, { on := 6, ground := Go.Ground.guard }], guard := some (6, false) }) (v := ?ve14_14) rfl (by kernel_rfl) (by kernel_rfl) (by kernel_rfl) (fun _ _ _ h => h) (Or.inl ⟨by rfl, ?he14_14⟩) hHeld ?re14_14
            case he14_14 =>
              intro wS hSw
              have q3 := (hSw.cell (p := ⟨b, o + 3, none⟩) hb).trans c3
              clear hSw
              (try dsimp only at hSw)
              go_simp
              try with_reducible rfl
            case re14_14 =>
            simp only [Act.put, List.setIfInBounds_toArray, List.set_cons_zero, List.set_cons_succ]
            refine wpAnyH_take (i := 15) (oi := { dst := some 64, op := Go.Op.binOp Go.BinOp.eql 2 (Go.Operand.tmp 59) (Go.Operand.tmp 63) 2, type := 4, pos := "l11_net.go:10", after := #[{ on := 10, ground := Go.Ground.data }, { on := 14, ground := Go.Ground.data }, { on := 6, ground := Go.Ground.guard }], guard := some (6, false) }) (v := ?ve15_15) rfl (by kernel_rfl) (by kernel_rfl) (by kernel_rfl) (fun _ _ _ h => h) (Or.inl ⟨by rfl, ?he15_15⟩) hHeld ?re15_15
            case he15_15 =>
              intro wS hSw
              (try dsimp only at hSw)
              go_simp
              try with_reducible rfl
            case re15_15 =>
            simp only [Act.put, List.setIfInBounds_toArray, List.set_cons_zero, List.set_cons_succ]
            refine wpAnyH_take (i := 16) (oi := { dst := some 65, op := Go.Op.pick (Go.Operand.tmp 55) (Go.Operand.const (Go.Value.bool true)) (Go.Operand.tmp 64), type := 4, pos := "l11_net.go:10", after := #[{ on := 6, ground := Go.Ground.data }, { on := 15, ground := Go.Ground.data }], guard := none }) (v := ?ve16_16) rfl (by kernel_rfl) (by kernel_rfl) (by kernel_rfl) (fun _ _ _ h => h) (Or.inl ⟨by rfl, ?he16_16⟩) hHeld ?re16_16
            case he16_16 =>
              intro wS hSw
              (try dsimp only at hSw)
              go_simp
              try with_reducible rfl
            case re16_16 =>
            simp only [Act.put, List.setIfInBounds_toArray, List.set_cons_zero, List.set_cons_succ]
            refine wpAnyH_take (i := 17) (oi := { dst := some 66, op := Go.Op.move (Go.Operand.tmp 65), type := 4, pos := "l11_net.go:10", after := #[{ on := 16, ground := Go.Ground.data }, { on := 6, ground := Go.Ground.chain }], guard := none }) (v := ?ve17_17) rfl (by kernel_rfl) (by kernel_rfl) (by kernel_rfl) (fun _ _ _ h => h) (Or.inl ⟨by rfl, ?he17_17⟩) hHeld ?re17_17
            case he17_17 =>
              intro wS hSw
              (try dsimp only at hSw)
              go_simp
              try with_reducible rfl
            case re17_17 =>
            simp only [Act.put, List.setIfInBounds_toArray, List.set_cons_zero, List.set_cons_succ]
            refine wpAnyH_take (i := 18) (oi := { dst := some 67, op := Go.Op.move (Go.Operand.tmp 3), type := 4, pos := "l11_net.go:10", after := #[{ on := 17, ground := Go.Ground.guard }], guard := some (17, false) }) (v := ?ve18_18) rfl (by kernel_rfl) (by kernel_rfl) (by kernel_rfl) (fun _ _ _ h => h) (Or.inl ⟨by rfl, ?he18_18⟩) hHeld ?re18_18
            case he18_18 =>
              intro wS hSw
              (try dsimp only at hSw)
              go_simp
              try with_reducible rfl
            case re18_18 =>
            simp only [Act.put, List.setIfInBounds_toArray, List.set_cons_zero, List.set_cons_succ]
            refine wpAnyH_take (i := 19) (oi := { dst := some 68, op := Go.Op.move (Go.Operand.tmp 67), type := 4, pos := "l11_net.go:10", after := #[{ on := 18, ground := Go.Ground.data }, { on := 17, ground := Go.Ground.chain }, { on := 17, ground := Go.Ground.guard }], guard := some (17, false) }) (v := ?ve19_19) rfl (by kernel_rfl) (by kernel_rfl) (by kernel_rfl) (fun _ _ _ h => h) (Or.inl ⟨by rfl, ?he19_19⟩) hHeld ?re19_19
            case he19_19 =>
              intro wS hSw
              (try dsimp only at hSw)
              go_simp
              try with_reducible rfl
            case re19_19 =>
            simp only [Act.put, List.setIfInBounds_toArray, List.set_cons_zero, List.set_cons_succ]
            refine wpAnyH_take (i := 20) (oi := { dst := some 69, op := Go.Op.move (Go.Operand.tmp 4), type := 4, pos := "l11_net.go:10", after := #[{ on := 19, ground := Go.Ground.guard }], guard := some (19, true) }) (v := ?ve20_20) rfl (by kernel_rfl) (by kernel_rfl) (by kernel_rfl) (fun _ _ _ h => h) (Or.inl ⟨by rfl, ?he20_20⟩) hHeld ?re20_20
            case he20_20 =>
              intro wS hSw
              (try dsimp only at hSw)
              go_simp
              try with_reducible rfl
            case re20_20 =>
            simp only [Act.put, List.setIfInBounds_toArray, List.set_cons_zero, List.set_cons_succ]
            refine wpAnyH_take (i := 21) (oi := { dst := some 70, op := Go.Op.unOp Go.UnOp.not 4 (Go.Operand.tmp 69), type := 4, pos := "l11_net.go:10", after := #[{ on := 20, ground := Go.Ground.data }, { on := 19, ground := Go.Ground.guard }], guard := some (19, true) }) (v := ?ve21_21) rfl (by kernel_rfl) (by kernel_rfl) (by kernel_rfl) (fun _ _ _ h => h) (Or.inl ⟨by rfl, ?he21_21⟩) hHeld ?re21_21
            case he21_21 =>
              intro wS hSw
              (try dsimp only at hSw)
              go_simp
              try with_reducible rfl
            case re21_21 =>
            simp only [Act.put, List.setIfInBounds_toArray, List.set_cons_zero, List.set_cons_succ]
            refine wpAnyH_take (i := 22) (oi := { dst := some 71, op := Go.Op.pick (Go.Operand.tmp 68) (Go.Operand.tmp 70) (Go.Operand.const (Go.Value.bool false)), type := 4, pos := "l11_net.go:10", after := #[{ on := 19, ground := Go.Ground.data }, { on := 21, ground := Go.Ground.data }, { on := 17, ground := Go.Ground.guard }], guard := some (17, false) }) (v := ?ve22_22) rfl (by kernel_rfl) (by kernel_rfl) (by kernel_rfl) (fun _ _ _ h => h) (Or.inl ⟨by rfl, ?he22_22⟩) hHeld ?re22_22
            case he22_22 =>
              intro wS hSw
              (try dsimp only at hSw)
              go_simp
              try with_reducible rfl
            case re22_22 =>
            simp only [Act.put, List.setIfInBounds_toArray, List.set_cons_zero, List.set_cons_succ]
            refine wpAnyH_take (i := 23) (oi := { dst := some 72, op := Go.Op.pick (Go.Operand.tmp 66) (Go.Operand.const (Go.Value.bool true)) (Go.Operand.tmp 71), type := 4, pos := "l11_net.go:10", after := #[{ on := 17, ground := Go.Ground.data }, { on := 22, ground := Go.Ground.data }], guard := none }) (v := ?ve23_23) rfl (by kernel_rfl) (by kernel_rfl) (by kernel_rfl) (fun _ _ _ h => h) (Or.inl ⟨by rfl, ?he23_23⟩) hHeld ?re23_23
            case he23_23 =>
              intro wS hSw
              (try dsimp only at hSw)
              go_simp
              try with_reducible rfl
            case re23_23 =>
            simp only [Act.put, List.setIfInBounds_toArray, List.set_cons_zero, List.set_cons_succ]
            refine wpAnyH_done (by kernel_rfl) ?_ _
            refine NoPanic.normal ?_
            have HB9 := hHeld
            clear hHeld
            have c0 : wD.cell? ⟨b, o, none⟩ = some (.int .i64 x.kind) := (HB9.cell (p := ⟨b, o, none⟩) hb).trans c0
            have c1 : wD.cell? ⟨b, o + 1, none⟩ = some (.int .i64 x.epoch) := (HB9.cell (p := ⟨b, o + 1, none⟩) hb).trans c1
            have c2 : wD.cell? ⟨b, o + 2, none⟩ = some (.int .i64 x.src) := (HB9.cell (p := ⟨b, o + 2, none⟩) hb).trans c2
            have c3 : wD.cell? ⟨b, o + 3, none⟩ = some (.int .i64 x.dst) := (HB9.cell (p := ⟨b, o + 3, none⟩) hb).trans c3
            have c4 : wD.cell? ⟨b, o + 4, none⟩ = some (.int .i64 x.index) := (HB9.cell (p := ⟨b, o + 4, none⟩) hb).trans c4
            have c5 : wD.cell? ⟨b, o + 5, none⟩ = some (.int .i64 x.write.kind) := (HB9.cell (p := ⟨b, o + 5, none⟩) hb).trans c5
            have c6 : wD.cell? ⟨b, o + 5 + 1, none⟩ = some (.int .i64 x.write.id) := (HB9.cell (p := ⟨b, o + 5 + 1, none⟩) hb).trans c6
            have c7 : wD.cell? ⟨b, o + 5 + 2, none⟩ = some (.slice a x.write.vec.length d) := (HB9.cell (p := ⟨b, o + 5 + 2, none⟩) hb).trans c7
            have c8 : wD.cell? ⟨b, o + 5 + 3, none⟩ = some (.int .i64 x.write.session) := (HB9.cell (p := ⟨b, o + 5 + 3, none⟩) hb).trans c8
            have c9 : wD.cell? ⟨b, o + 5 + 4, none⟩ = some (.int .i64 x.write.seq) := (HB9.cell (p := ⟨b, o + 5 + 4, none⟩) hb).trans c9
            have HWD := hide ((unhide H).later HB9)
            replace hb : b < wD.heap.size := Nat.lt_of_lt_of_le hb HB9.size
            replace HB9 := hide HB9
            go_wp2_with fail
            refine (inC x.epoch 1 999 wD).mono ?_
            rintro e w1 ⟨rfl, h1⟩
            subst w1
            cases d12 : (decide (1 ≤ x.epoch) && decide (x.epoch ≤ 999))
            · have HF := hide ((unhide HRS).trans (mr_epoch d12))
              clear d12
              go_wp2_with fail
              go_ret
              exact ⟨by rw [unhide HF]; rfl, unhide HB9⟩
            · skip
              go_wp2_with fail
              refine (node10C x.src wD).mono ?_
              rintro e w1 ⟨rfl, h1⟩
              subst w1
              cases d14 : (decide (1 ≤ x.src) && decide (x.src ≤ 5))
              · have HF := hide ((unhide HRS).trans (mr_src d14))
                clear d14
                go_wp2_with fail
                go_ret
                exact ⟨by rw [unhide HF]; rfl, unhide HB9⟩
              · skip
                go_wp2_with fail
                refine (node10C x.dst wD).mono ?_
                rintro e w1 ⟨rfl, h1⟩
                subst w1
                cases d16 : (decide (1 ≤ x.dst) && decide (x.dst ≤ 5))
                · have HF := hide ((unhide HRS).trans (mr_dst d16))
                  clear d16
                  go_wp2_with fail
                  go_ret
                  exact ⟨by rw [unhide HF]; rfl, unhide HB9⟩
                · skip
                  go_wp2_with fail
                  refine (inC x.index 0 40 wD).mono ?_
                  rintro e w1 ⟨rfl, h1⟩
                  subst w1
                  cases d18 : (decide (0 ≤ x.index) && decide (x.index ≤ 40))
                  · have HF := hide ((unhide HRS).trans (mr_index d18))
                    clear d18
                    go_wp2_with fail
                    go_ret
                    exact ⟨by rw [unhide HF]; rfl, unhide HB9⟩
                  · skip
                    have HF : Hid (msgFault x = 0) := (unhide HRS).trans ((mr_ok d12 d14 d16 d18 (Or.inl e2)).trans (if_pos (beq_iff_eq.1 e2)))
                    clear d12 d14 d16 d18
                    go_wp2_with fail
                    go_ret
                    exact ⟨by rw [unhide HF]; rfl, unhide HB9⟩
      · have HF := hide (mf_self e1)
        go_upto_region 3 with fail
        refine wp_region_noPanic ?_
        refine wp_region_held_drew (S := fun w' => Below wc.heap.size wc w') (by kernel_rfl) (Below.refl _ _).drew (fun hHeld => ?_)
        generalize wc.drew = wD at hHeld ⊢
        refine wpAnyH_take (i := 0) (oi := { dst := some 49, op := Go.Op.move (Go.Operand.tmp 0), type := 40, pos := "l11_net.go:10", after := #[], guard := none }) (v := ?vb0_1) rfl (by kernel_rfl) (by kernel_rfl) (by kernel_rfl) (fun _ _ _ h => h) (Or.inl ⟨by rfl, ?hb0_1⟩) hHeld ?rb0_1
        case hb0_1 =>
          intro wS hSw
          (try dsimp only at hSw)
          go_simp
          try with_reducible rfl
        case rb0_1 =>
        simp only [Act.put, List.setIfInBounds_toArray, List.set_cons_zero, List.set_cons_succ]
        refine wpAnyH_take (i := 1) (oi := { dst := some 50, op := Go.Op.nilCheck (Go.Operand.tmp 49), type := 0, pos := "l11_net.go:10", after := #[{ on := 0, ground := Go.Ground.data }], guard := none }) (v := ?vb1_2) rfl (by kernel_rfl) (by kernel_rfl) (by kernel_rfl) (fun _ _ _ h => h) (Or.inl ⟨by rfl, ?hb1_2⟩) hHeld ?rb1_2
        case hb1_2 =>
          intro wS hSw
          (try dsimp only at hSw)
          go_simp
          try with_reducible rfl
        case rb1_2 =>
        simp only [Act.put, List.setIfInBounds_toArray, List.set_cons_zero, List.set_cons_succ]
        refine wpAnyH_take (i := 2) (oi := { dst := some 51, op := Go.Op.fieldAddr 33 (Go.Operand.tmp 50) 0, type := 0, pos := "l11_net.go:10", after := #[{ on := 1, ground := Go.Ground.data }], guard := none }) (v := ?vb2_3) rfl (by kernel_rfl) (by kernel_rfl) (by kernel_rfl) (fun _ _ _ h => h) (Or.inl ⟨by rfl, ?hb2_3⟩) hHeld ?rb2_3
        case hb2_3 =>
          intro wS hSw
          (try dsimp only at hSw)
          go_simp
          try with_reducible rfl
        case rb2_3 =>
        simp only [Act.put, List.setIfInBounds_toArray, List.set_cons_zero, List.set_cons_succ]
        refine wpAnyH_take (i := 3) (oi := { dst := some 52, op := Go.Op.load 2 (Go.Operand.tmp 51), type := 2, pos := "l11_net.go:10", after := #[{ on := 2, ground := Go.Ground.data }], guard := none }) (v := ?vb3_4) rfl (by kernel_rfl) (by kernel_rfl) (by kernel_rfl) (fun _ _ _ h => h) (Or.inl ⟨by rfl, ?hb3_4⟩) hHeld ?rb3_4
        case hb3_4 =>
          intro wS hSw
          have q0 := (hSw.cell (p := ⟨b, o, none⟩) hb).trans c0
          clear hSw
          (try dsimp only at hSw)
          go_simp
          try with_reducible rfl
        case rb3_4 =>
        simp only [Act.put, List.setIfInBounds_toArray, List.set_cons_zero, List.set_cons_succ]
        refine wpAnyH_ready (rs := [4]) (by kernel_rfl) (by simp) ?_
        refine AllReadyH.cons (o := { dst := some 53, op := Go.Op.call { callee := Go.Callee.value (Go.Operand.func 21), args := #[Go.Operand.tmp 52, Go.Operand.const (Go.Value.int Go.IntKind.i64 1), Go.Operand.const (Go.Value.int Go.IntKind.i64 2)], argTypes := #[2, 2, 2] }, type := 4, pos := "l11_net.go:10", after := #[{ on := 3, ground := Go.Ground.data }], guard := none }) rfl (fun K hK => ?_) AllReadyH.nil
        go_simp
        go_at_call 21
        refine (inC x.kind 1 2 _).mono ?_
        rintro e w1 ⟨rfl, h1⟩
        subst w1
        rw [d1]
        try go_wp2_with fail
        refine hK.out _ _ hHeld (fun hHeld => ?_)
        clear hK K
        try simp only [Act.put, List.setIfInBounds_toArray, List.set_cons_zero, List.set_cons_succ]
        refine wpAnyH_take (i := 5) (oi := { dst := some 54, op := Go.Op.unOp Go.UnOp.not 4 (Go.Operand.tmp 53), type := 4, pos := "l11_net.go:10", after := #[{ on := 4, ground := Go.Ground.data }], guard := none }) (v := ?vb5_5) rfl (by kernel_rfl) (by kernel_rfl) (by kernel_rfl) (fun _ _ _ h => h) (Or.inl ⟨by rfl, ?hb5_5⟩) hHeld ?rb5_5
        case hb5_5 =>
          intro wS hSw
          (try dsimp only at hSw)
          go_simp
          try with_reducible rfl
        case rb5_5 =>
        simp only [Act.put, List.setIfInBounds_toArray, List.set_cons_zero, List.set_cons_succ]
        refine wpAnyH_take (i := 6) (oi := { dst := some 55, op := Go.Op.move (Go.Operand.tmp 54), type := 4, pos := "l11_net.go:10", after := #[{ on := 5, ground := Go.Ground.data }, { on := 4, ground := Go.Ground.chain }], guard := none }) (v := ?vb6_6) rfl (by kernel_rfl) (by kernel_rfl) (by kernel_rfl) (fun _ _ _ h => h) (Or.inl ⟨by rfl, ?hb6_6⟩) hHeld ?rb6_6
        case hb6_6 =>
          intro wS hSw
          (try dsimp only at hSw)
          go_simp
          try with_reducible rfl
        case rb6_6 =>
        simp only [Act.put, List.setIfInBounds_toArray, List.set_cons_zero, List.set_cons_succ]
        refine wpAnyH_take (i := 7) (oi := { dst := some 56, op := Go.Op.move (Go.Operand.tmp 0), type := 40, pos := "l11_net.go:10", after := #[{ on := 6, ground := Go.Ground.guard }], guard := some (6, false) }) (v := ?vb7_7) rfl (by kernel_rfl) (by kernel_rfl) (by kernel_rfl) (fun _ _ _ h => h) (Or.inl ⟨by rfl, ?hb7_7⟩) hHeld ?rb7_7
        case hb7_7 =>
          intro wS hSw
          (try dsimp only at hSw)
          go_simp
          try with_reducible rfl
        case rb7_7 =>
        simp only [Act.put, List.setIfInBounds_toArray, List.set_cons_zero, List.set_cons_succ]
        refine wpAnyH_take (i := 8) (oi := { dst := some 57, op := Go.Op.nilCheck (Go.Operand.tmp 56), type := 0, pos := "l11_net.go:10", after := #[{ on := 7, ground := Go.Ground.data }, { on := 6, ground := Go.Ground.guard }], guard := some (6, false) }) (v := ?vb8_8) rfl (by kernel_rfl) (by kernel_rfl) (by kernel_rfl) (fun _ _ _ h => h) (Or.inl ⟨by rfl, ?hb8_8⟩) hHeld ?rb8_8
        case hb8_8 =>
          intro wS hSw
          (try dsimp only at hSw)
          go_simp
          try with_reducible rfl
        case rb8_8 =>
        simp only [Act.put, List.setIfInBounds_toArray, List.set_cons_zero, List.set_cons_succ]
        refine wpAnyH_take (i := 9) (oi := { dst := some 58, op := Go.Op.fieldAddr 33 (Go.Operand.tmp 57) 2, type := 0, pos := "l11_net.go:10", after := #[{ on := 8, ground := Go.Ground.data }, { on := 6, ground := Go.Ground.guard }], guard := some (6, false) }) (v := ?vb9_9) rfl (by kernel_rfl) (by kernel_rfl) (by kernel_rfl) (fun _ _ _ h => h) (Or.inl ⟨by rfl, ?hb9_9⟩) hHeld ?rb9_9
        case hb9_9 =>
          intro wS hSw
          (try dsimp only at hSw)
          go_simp
          try with_reducible rfl
        case rb9_9 =>
        simp only [Act.put, List.setIfInBounds_toArray, List.set_cons_zero, List.set_cons_succ]
        refine wpAnyH_take (i := 10) (oi := { dst := some 59, op := Go.Op.load 2 (Go.Operand.tmp 58), type := 2, pos := "l11_net.go:10", after := #[{ on := 9, ground := Go.Ground.data }, { on := 6, ground := Go.Ground.guard }], guard := some (6, false) }) (v := ?vb10_10) rfl (by kernel_rfl) (by kernel_rfl) (by kernel_rfl) (fun _ _ _ h => h) (Or.inl ⟨by rfl, ?hb10_10⟩) hHeld ?rb10_10
        case hb10_10 =>
          intro wS hSw
          have q2 := (hSw.cell (p := ⟨b, o + 2, none⟩) hb).trans c2
          clear hSw
          (try dsimp only at hSw)
          go_simp
          try with_reducible rfl
        case rb10_10 =>
        simp only [Act.put, List.setIfInBounds_toArray, List.set_cons_zero, List.set_cons_succ]
        refine wpAnyH_take (i := 11) (oi := { dst := some 60, op := Go.Op.move (Go.Operand.tmp 0), type := 40, pos := "l11_net.go:10", after := #[{ on := 6, ground := Go.Ground.guard }], guard := some (6, false) }) (v := ?vb11_11) rfl (by kernel_rfl) (by kernel_rfl) (by kernel_rfl) (fun _ _ _ h => h) (Or.inl ⟨by rfl, ?hb11_11⟩) hHeld ?rb11_11
        case hb11_11 =>
          intro wS hSw
          (try dsimp only at hSw)
          go_simp
          try with_reducible rfl
        case rb11_11 =>
        simp only [Act.put, List.setIfInBounds_toArray, List.set_cons_zero, List.set_cons_succ]
        refine wpAnyH_take (i := 12) (oi := { dst := some 61, op := Go.Op.nilCheck (Go.Operand.tmp 60), type := 0, pos := "l11_net.go:10", after := #[{ on := 11, ground := Go.Ground.data }, { on := 6, ground := Go.Ground.guard }], guard := some (6, false) }) (v := ?vb12_12) rfl (by kernel_rfl) (by kernel_rfl) (by kernel_rfl) (fun _ _ _ h => h) (Or.inl ⟨by rfl, ?hb12_12⟩) hHeld ?rb12_12
        case hb12_12 =>
          intro wS hSw
          (try dsimp only at hSw)
          go_simp
          try with_reducible rfl
        case rb12_12 =>
        simp only [Act.put, List.setIfInBounds_toArray, List.set_cons_zero, List.set_cons_succ]
        refine wpAnyH_take (i := 13) (oi := { dst := some 62, op := Go.Op.fieldAddr 33 (Go.Operand.tmp 61) 3, type := 0, pos := "l11_net.go:10", after := #[{ on := 12, ground := Go.Ground.data }, { on := 6, ground := Go.Ground.guard }], guard := some (6, false) }) (v := ?vb13_13) rfl (by kernel_rfl) (by kernel_rfl) (by kernel_rfl) (fun _ _ _ h => h) (Or.inl ⟨by rfl, ?hb13_13⟩) hHeld ?rb13_13
        case hb13_13 =>
          intro wS hSw
          (try dsimp only at hSw)
          go_simp
          try with_reducible rfl
        case rb13_13 =>
        simp only [Act.put, List.setIfInBounds_toArray, List.set_cons_zero, List.set_cons_succ]
        refine wpAnyH_take (i := 14) (oi := { dst := some 63, op := Go.Op.load 2 (Go.Operand.tmp 62), type := 2, pos := "l11_net.go:10", after := #[{ on := 13, ground := Go.Ground.data }, { on := 6, ground := Go.Ground.guard }], guard := some (6, false) }) (v := ?vb14_14) rfl (by kernel_rfl) (by kernel_rfl) (by kernel_rfl) (fun _ _ _ h => h) (Or.inl ⟨by rfl, ?hb14_14⟩) hHeld ?rb14_14
        case hb14_14 =>
          intro wS hSw
          have q3 := (hSw.cell (p := ⟨b, o + 3, none⟩) hb).trans c3
          clear hSw
          (try dsimp only at hSw)
          go_simp
          try with_reducible rfl
        case rb14_14 =>
        simp only [Act.put, List.setIfInBounds_toArray, List.set_cons_zero, List.set_cons_succ]
        refine wpAnyH_take (i := 15) (oi := { dst := some 64, op := Go.Op.binOp Go.BinOp.eql 2 (Go.Operand.tmp 59) (Go.Operand.tmp 63) 2, type := 4, pos := "l11_net.go:10", after := #[{ on := 10, ground := Go.Ground.data }, { on := 14, ground := Go.Ground.data }, { on := 6, ground := Go.Ground.guard }], guard := some (6, false) }) (v := ?vb15_15) rfl (by kernel_rfl) (by kernel_rfl) (by kernel_rfl) (fun _ _ _ h => h) (Or.inl ⟨by rfl, ?hb15_15⟩) hHeld ?rb15_15
        case hb15_15 =>
          intro wS hSw
          (try dsimp only at hSw)
          go_simp
          try with_reducible rfl
        case rb15_15 =>
        simp only [Act.put, List.setIfInBounds_toArray, List.set_cons_zero, List.set_cons_succ]
        refine wpAnyH_take (i := 16) (oi := { dst := some 65, op := Go.Op.pick (Go.Operand.tmp 55) (Go.Operand.const (Go.Value.bool true)) (Go.Operand.tmp 64), type := 4, pos := "l11_net.go:10", after := #[{ on := 6, ground := Go.Ground.data }, { on := 15, ground := Go.Ground.data }], guard := none }) (v := ?vb16_16) rfl (by kernel_rfl) (by kernel_rfl) (by kernel_rfl) (fun _ _ _ h => h) (Or.inl ⟨by rfl, ?hb16_16⟩) hHeld ?rb16_16
        case hb16_16 =>
          intro wS hSw
          (try dsimp only at hSw)
          go_simp
          try with_reducible rfl
        case rb16_16 =>
        simp only [Act.put, List.setIfInBounds_toArray, List.set_cons_zero, List.set_cons_succ]
        refine wpAnyH_take (i := 17) (oi := { dst := some 66, op := Go.Op.move (Go.Operand.tmp 65), type := 4, pos := "l11_net.go:10", after := #[{ on := 16, ground := Go.Ground.data }, { on := 6, ground := Go.Ground.chain }], guard := none }) (v := ?vb17_17) rfl (by kernel_rfl) (by kernel_rfl) (by kernel_rfl) (fun _ _ _ h => h) (Or.inl ⟨by rfl, ?hb17_17⟩) hHeld ?rb17_17
        case hb17_17 =>
          intro wS hSw
          (try dsimp only at hSw)
          go_simp
          try with_reducible rfl
        case rb17_17 =>
        simp only [Act.put, List.setIfInBounds_toArray, List.set_cons_zero, List.set_cons_succ]
        refine wpAnyH_take (i := 18) (oi := { dst := some 67, op := Go.Op.move (Go.Operand.tmp 3), type := 4, pos := "l11_net.go:10", after := #[{ on := 17, ground := Go.Ground.guard }], guard := some (17, false) }) (v := undef) rfl (by kernel_rfl) (by kernel_rfl) (by kernel_rfl) (fun _ _ _ h => h) (Or.inr ⟨by rfl, rfl⟩) hHeld ?_
        simp only [Act.put, List.setIfInBounds_toArray, List.set_cons_zero, List.set_cons_succ]
        refine wpAnyH_take (i := 19) (oi := { dst := some 68, op := Go.Op.move (Go.Operand.tmp 67), type := 4, pos := "l11_net.go:10", after := #[{ on := 18, ground := Go.Ground.data }, { on := 17, ground := Go.Ground.chain }, { on := 17, ground := Go.Ground.guard }], guard := some (17, false) }) (v := undef) rfl (by kernel_rfl) (by kernel_rfl) (by kernel_rfl) (fun _ _ _ h => h) (Or.inr ⟨by rfl, rfl⟩) hHeld ?_
        simp only [Act.put, List.setIfInBounds_toArray, List.set_cons_zero, List.set_cons_succ]
        refine wpAnyH_take (i := 20) (oi := { dst := some 69, op := Go.Op.move (Go.Operand.tmp 4), type := 4, pos := "l11_net.go:10", after := #[{ on := 19, ground := Go.Ground.guard }], guard := some (19, true) }) (v := undef) rfl (by kernel_rfl) (by kernel_rfl) (by kernel_rfl) (fun _ _ _ h => h) (Or.inr ⟨by rfl, rfl⟩) hHeld ?_
        simp only [Act.put, List.setIfInBounds_toArray, List.set_cons_zero, List.set_cons_succ]
        refine wpAnyH_take (i := 21) (oi := { dst := some 70, op := Go.Op.unOp Go.UnOp.not 4 (Go.Operand.tmp 69), type := 4, pos := "l11_net.go:10", after := #[{ on := 20, ground := Go.Ground.data }, { on := 19, ground := Go.Ground.guard }], guard := some (19, true) }) (v := undef) rfl (by kernel_rfl) (by kernel_rfl) (by kernel_rfl) (fun _ _ _ h => h) (Or.inr ⟨by rfl, rfl⟩) hHeld ?_
        simp only [Act.put, List.setIfInBounds_toArray, List.set_cons_zero, List.set_cons_succ]
        refine wpAnyH_take (i := 22) (oi := { dst := some 71, op := Go.Op.pick (Go.Operand.tmp 68) (Go.Operand.tmp 70) (Go.Operand.const (Go.Value.bool false)), type := 4, pos := "l11_net.go:10", after := #[{ on := 19, ground := Go.Ground.data }, { on := 21, ground := Go.Ground.data }, { on := 17, ground := Go.Ground.guard }], guard := some (17, false) }) (v := undef) rfl (by kernel_rfl) (by kernel_rfl) (by kernel_rfl) (fun _ _ _ h => h) (Or.inr ⟨by rfl, rfl⟩) hHeld ?_
        simp only [Act.put, List.setIfInBounds_toArray, List.set_cons_zero, List.set_cons_succ]
        refine wpAnyH_take (i := 23) (oi := { dst := some 72, op := Go.Op.pick (Go.Operand.tmp 66) (Go.Operand.const (Go.Value.bool true)) (Go.Operand.tmp 71), type := 4, pos := "l11_net.go:10", after := #[{ on := 17, ground := Go.Ground.data }, { on := 22, ground := Go.Ground.data }], guard := none }) (v := ?vb23_23) rfl (by kernel_rfl) (by kernel_rfl) (by kernel_rfl) (fun _ _ _ h => h) (Or.inl ⟨by rfl, ?hb23_23⟩) hHeld ?rb23_23
        case hb23_23 =>
          intro wS hSw
          (try dsimp only at hSw)
          go_simp
          try with_reducible rfl
        case rb23_23 =>
        simp only [Act.put, List.setIfInBounds_toArray, List.set_cons_zero, List.set_cons_succ]
        refine wpAnyH_done (by kernel_rfl) ?_ _
        refine NoPanic.normal ?_
        have HB9 := hide hHeld
        clear hHeld
        go_wp2_with fail
        go_ret
        exact ⟨by rw [unhide HF]; rfl, unhide HB9⟩

end Go.Proofs.YtkmfkaljdngigaaDoor
