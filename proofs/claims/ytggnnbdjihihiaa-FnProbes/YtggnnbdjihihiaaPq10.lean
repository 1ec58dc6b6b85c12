/-
  The law FnProbes answers true at every slice of bytes, and writes nothing that was there.
  No condition.
-/
import Derived.Test.YtggnnbdjihihiaaPq05
import Derived.Test.YtggnnbdjihihiaaPq06
import Derived.Test.YtggnnbdjihihiaaPq08
import Derived.Test.YtggnnbdjihihiaaPq09
import Derived.Deep.RegionHeld3

namespace Go.Proofs.Ytggnnbdjihihiaa
open Go.RowKit

theorem fieldNI0 (c : Int) (a : Option Addr) (n cp : Nat) (w : World) : (Instr.field 32 (.agg #[.int .i64 c, .slice a n cp]) 0).run Try.prog w = .ok (.int .i64 c) w := by kernel_rfl
theorem fieldIR1p (c n : Int) (w : World) : (Instr.field 43 (.agg #[.int .i64 c, .int .i64 n]) 1).run Try.prog w = .ok (.int .i64 n) w := by kernel_rfl

theorem lawProbes_many (ao : Option Addr) (len cap : Nat) (w : World) (hn : 1048576 < len) :
    Calls Try.prog 3 #[.slice ao len cap] w fun e w' => e = .returned (.bool true) ∧ Below w.heap.size w w' := by
  go_enter Try.func3, Try.ntmps3
  go_wp2_with fail
  refine (big_yes ao len cap w hn).mono ?_
  rintro e w' ⟨rfl, rfl⟩
  go_wp2_with fail
  go_ret
  exact ⟨rfl, Below.refl _ _⟩

set_option maxRecDepth 100000 in
set_option maxHeartbeats 8000000 in
theorem lawProbes_few (ao : Option Addr) (len cap : Nat) (w : World) (hn : len ≤ 1048576) (hcode : IsCode w.heap.size w (.slice ao len cap)) :
    Calls Try.prog 3 #[.slice ao len cap] w fun e w' => e = .returned (.bool true) ∧ Below w.heap.size w w' := by
  have HC := hide hcode
  clear hcode
  go_enter Try.func3, Try.ntmps3
  go_wp2_with fail
  refine (big_no ao len cap w hn).mono ?_
  rintro e w ⟨rfl, rfl⟩
  go_wp2_with fail
  refine (draw_DrawProbesOf ao len cap w (unhide HC)).mono ?_
  rintro e w1 ⟨rc, rl, x, vv, vec, n, rfl, hX, hV, hvl, hnb, hb1⟩
  obtain ⟨a8, c8, a9, c9, ef, hCen, -⟩ := open_Ivf hX
  obtain ⟨rfl, rfl⟩ : rc = .slice a8 x.centers.length c8 ∧ rl = .slice a9 x.lists.length c9 := by simpa using ef
  obtain ⟨av, dv, rfl⟩ := open_sl hV
  clear ef
  have nb1 : Below w1.heap.size w1 (w1.alloc (.cells #[.slice a8 x.centers.length c8, .slice a9 x.lists.length c9] 27)) := (Below.refl _ _).alloc (Nat.le_refl _) _
  have x3 : Box 0 #[.slice a8 x.centers.length c8, .slice a9 x.lists.length c9] 27 (w1.alloc (.cells #[.slice a8 x.centers.length c8, .slice a9 x.lists.length c9] 27)) w1.heap.size := newBox (Nat.zero_le _)
  have z0 : (w1.alloc (.cells #[.slice a8 x.centers.length c8, .slice a9 x.lists.length c9] 27)).cell? ⟨w1.heap.size, 0, none⟩ = some (.slice a8 x.centers.length c8) := x3.at 0 _ rfl
  have z1 : (w1.alloc (.cells #[.slice a8 x.centers.length c8, .slice a9 x.lists.length c9] 27)).cell? ⟨w1.heap.size, 1, none⟩ = some (.slice a9 x.lists.length c9) := x3.at 1 _ rfl
  have HX3 := hide x3
  have HRX := hide (hX.later nb1)
  have HRC := hide (hCen.later nb1)
  have HRV := hide (hV.later nb1)
  have HB := hide (hb1.trans (nb1.mono hb1.size))
  have L2 := hide (implProbesOf _ x _ vec n _ (unhide HRX) (unhide HRV))
  clear hX hV hb1 nb1 x3 HC hvl hCen
  go_wp2_with fail
  generalize w1.alloc (.cells #[.slice a8 x.centers.length c8, .slice a9 x.lists.length c9] 27) = W1 at *
  clear z0 z1
  refine (unhide L2).mono ?_
  rintro e w2 ⟨cs, rfl, O, hb2⟩
  obtain ⟨a1, d1, rfl, R2⟩ := open_IntsResult O.reads
  clear O
  by_cases hf : (probesR x vec n).code = 0
  · obtain ⟨P, AP, A, B, nr, e2, e3, hPA, hPT, hAC, e4, e5, hAB, hPn, hP0, e6, hc6, hwf, hA5⟩ := probes_bundle hf
    rw [e2] at R2 ⊢
    simp only at R2 ⊢
    have HPT := hide hPT
    have HAB := hide hAB
    have HPN := hide hPn
    have HP0 := hide hP0
    have HAC := hide hAC
    clear e2 hf hPT hAB hPn hP0 hwf hAC
    have nb2 : Below w2.heap.size w2 (w2.alloc (.cells #[.int .i64 0, .slice a1 P.length d1] 32)) := (Below.refl _ _).alloc (Nat.le_refl _) _
    have x2 : Box 0 #[.int .i64 0, .slice a1 P.length d1] 32 (w2.alloc (.cells #[.int .i64 0, .slice a1 P.length d1] 32)) w2.heap.size := newBox (Nat.zero_le _)
    replace HX3 := hide (((unhide HX3).keep hb2).keep nb2)
    replace HRX := hide (((unhide HRX).later hb2).later nb2)
    replace HRC := hide (((unhide HRC).later hb2).later nb2)
    replace HRV := hide (((unhide HRV).later hb2).later nb2)
    have HB2 := hide x2
    have HR2 := hide (R2.later nb2)
    replace HB := hide (((unhide HB).trans (hb2.mono (unhide HB).size)).trans (nb2.mono (Nat.le_trans (unhide HB).size hb2.size)))
    clear R2 nb2 x2 hb2 L2
    have z9 : (w2.alloc (.cells #[.int .i64 0, .slice a1 P.length d1] 32)).cell? ⟨w2.heap.size, 0, none⟩ = some (.int .i64 0) := (unhide HB2).at 0 _ rfl
    have z0 : (w2.alloc (.cells #[.int .i64 0, .slice a1 P.length d1] 32)).cell? ⟨w1.heap.size, 0, none⟩ = some (.slice a8 x.centers.length c8) := (unhide HX3).at 0 _ rfl
    have z1 : (w2.alloc (.cells #[.int .i64 0, .slice a1 P.length d1] 32)).cell? ⟨w1.heap.size, 1, none⟩ = some (.slice a9 x.lists.length c9) := (unhide HX3).at 1 _ rfl
    have L3 := hide (implProbesOf _ x _ vec 6 _ (unhide HRX) (unhide HRV))
    rw [e3] at L3
    go_wp2_with fail
    generalize w2.alloc (.cells #[.int .i64 0, .slice a1 P.length d1] 32) = W2 at *
    clear z0 z1
    refine (unhide L3).mono ?_
    rintro e w3 ⟨cs, rfl, O, hb3⟩
    obtain ⟨a3, d3, rfl, R3⟩ := open_IntsResult O.reads
    simp only at R3 ⊢
    clear O
    clear z9
    have nb3 : Below w3.heap.size w3 (w3.alloc (.cells #[.int .i64 0, .slice a3 AP.length d3] 32)) := (Below.refl _ _).alloc (Nat.le_refl _) _
    have x3 : Box 0 #[.int .i64 0, .slice a3 AP.length d3] 32 (w3.alloc (.cells #[.int .i64 0, .slice a3 AP.length d3] 32)) w3.heap.size := newBox (Nat.zero_le _)
    replace HX3 := hide (((unhide HX3).keep hb3).keep nb3)
    replace HB2 := hide (((unhide HB2).keep hb3).keep nb3)
    replace HRX := hide (((unhide HRX).later hb3).later nb3)
    replace HRC := hide (((unhide HRC).later hb3).later nb3)
    replace HRV := hide (((unhide HRV).later hb3).later nb3)
    replace HR2 := hide (((unhide HR2).later hb3).later nb3)
    have HB3 := hide x3
    have HR3 := hide (R3.later nb3)
    replace HB := hide (((unhide HB).trans (hb3.mono (unhide HB).size)).trans (nb3.mono (Nat.le_trans (unhide HB).size hb3.size)))
    clear R3 nb3 x3 hb3 L3
    go_wp2_with fail
    generalize w3.alloc (.cells #[.int .i64 0, .slice a3 AP.length d3] 32) = W3 at *
    have hcap3 : AP.length ≤ d3 := (unhide HR3).cap.2
    have kd : P.length ≤ d3 := by omega
    have g1 : decide ((AP.length : Int) < (P.length : Int)) = false := decide_eq_false (by omega)
    have g2 : ((AP.length : Int) != (x.centers.length : Int)) = false := by rw [unhide HAC]; simp
    have LN : Hid (∀ W, Below W3.heap.size W3 W → Calls Try.prog 13 #[.slice a1 P.length d1, .slice a3 P.length d3] W fun e w' => e = .returned (.bool true) ∧ Below W.heap.size W w') := fun W hW => by
      have h1 := take_readsI ((unhide HR3).later hW) P.length hPA
      rw [unhide HPT] at h1
      exact lwSame _ _ P W ((unhide HR2).later hW) h1 (by have := unhide HAC; omega)
    have KEEP3 : Hid (∀ W, Below W3.heap.size W3 W → W.cell? ⟨w2.heap.size, 1, none⟩ = some (.slice a1 P.length d1) ∧ W.cell? ⟨w3.heap.size, 1, none⟩ = some (.slice a3 AP.length d3) ∧ W.cell? ⟨w1.heap.size, 0, none⟩ = some (.slice a8 x.centers.length c8)) := fun W hW => ⟨((unhide HB2).keep hW).at 1 _ rfl, ((unhide HB3).keep hW).at 1 _ rfl, ((unhide HX3).keep hW).at 0 _ rfl⟩
    refine wp_region_noPanic ?_
    refine wp_region_held_drew (S := fun w' => Below W3.heap.size W3 w') (by kernel_rfl) (Below.refl _ _).drew (fun hHeld => ?_)
    generalize W3.drew = wD at hHeld ⊢
    refine wpAnyH_take (i := 0) (oi := { dst := some 37, op := Go.Op.fieldAddr 32 (Go.Operand.tmp 6) 1, type := 0, pos := "laws.go:323", after := #[], guard := none }) (v := ?ve0_1) rfl (by kernel_rfl) (by kernel_rfl) (by kernel_rfl) (fun _ _ _ h => h) (Or.inl ⟨by rfl, ?he0_1⟩) hHeld ?re0_1
    case he0_1 =>
      intro wS hSw
      (try dsimp only at hSw)
      go_simp
      try with_reducible rfl
    case re0_1 =>
    simp only [Act.put, List.setIfInBounds_toArray, List.set_cons_zero, List.set_cons_succ]
    refine wpAnyH_take (i := 1) (oi := { dst := some 38, op := Go.Op.load 28 (Go.Operand.tmp 37), type := 28, pos := "laws.go:323", after := #[{ on := 0, ground := Go.Ground.data }], guard := none }) (v := ?ve1_2) rfl (by kernel_rfl) (by kernel_rfl) (by kernel_rfl) (fun _ _ _ h => h) (Or.inl ⟨by rfl, ?he1_2⟩) hHeld ?re1_2
    case he1_2 =>
      intro wS hSw
      obtain ⟨y0, y1, y2⟩ := unhide KEEP3 _ hSw
      clear hSw
      (try dsimp only at hSw)
      go_simp
      try with_reducible rfl
    case re1_2 =>
    simp only [Act.put, List.setIfInBounds_toArray, List.set_cons_zero, List.set_cons_succ]
    refine wpAnyH_take (i := 2) (oi := { dst := some 39, op := Go.Op.call { callee := Go.Callee.builtin Go.Builtin.len, args := #[Go.Operand.tmp 38], argTypes := #[28] }, type := 3, pos := "laws.go:323", after := #[{ on := 1, ground := Go.Ground.data }], guard := none }) (v := ?ve2_3) rfl (by kernel_rfl) (by kernel_rfl) (by kernel_rfl) (fun _ _ _ h => h) (Or.inl ⟨by rfl, ?he2_3⟩) hHeld ?re2_3
    case he2_3 =>
      intro wS hSw
      (try dsimp only at hSw)
      go_simp
      try with_reducible rfl
    case re2_3 =>
    simp only [Act.put, List.setIfInBounds_toArray, List.set_cons_zero, List.set_cons_succ]
    refine wpAnyH_take (i := 3) (oi := { dst := some 40, op := Go.Op.fieldAddr 32 (Go.Operand.tmp 7) 1, type := 0, pos := "laws.go:323", after := #[], guard := none }) (v := ?ve3_4) rfl (by kernel_rfl) (by kernel_rfl) (by kernel_rfl) (fun _ _ _ h => h) (Or.inl ⟨by rfl, ?he3_4⟩) hHeld ?re3_4
    case he3_4 =>
      intro wS hSw
      (try dsimp only at hSw)
      go_simp
      try with_reducible rfl
    case re3_4 =>
    simp only [Act.put, List.setIfInBounds_toArray, List.set_cons_zero, List.set_cons_succ]
    refine wpAnyH_take (i := 4) (oi := { dst := some 41, op := Go.Op.load 28 (Go.Operand.tmp 40), type := 28, pos := "laws.go:323", after := #[{ on := 3, ground := Go.Ground.data }], guard := none }) (v := ?ve4_5) rfl (by kernel_rfl) (by kernel_rfl) (by kernel_rfl) (fun _ _ _ h => h) (Or.inl ⟨by rfl, ?he4_5⟩) hHeld ?re4_5
    case he4_5 =>
      intro wS hSw
      obtain ⟨y0, y1, y2⟩ := unhide KEEP3 _ hSw
      clear hSw
      (try dsimp only at hSw)
      go_simp
      try with_reducible rfl
    case re4_5 =>
    simp only [Act.put, List.setIfInBounds_toArray, List.set_cons_zero, List.set_cons_succ]
    refine wpAnyH_take (i := 5) (oi := { dst := some 42, op := Go.Op.call { callee := Go.Callee.builtin Go.Builtin.len, args := #[Go.Operand.tmp 41], argTypes := #[28] }, type := 3, pos := "laws.go:323", after := #[{ on := 4, ground := Go.Ground.data }], guard := none }) (v := ?ve5_6) rfl (by kernel_rfl) (by kernel_rfl) (by kernel_rfl) (fun _ _ _ h => h) (Or.inl ⟨by rfl, ?he5_6⟩) hHeld ?re5_6
    case he5_6 =>
      intro wS hSw
      (try dsimp only at hSw)
      go_simp
      try with_reducible rfl
    case re5_6 =>
    simp only [Act.put, List.setIfInBounds_toArray, List.set_cons_zero, List.set_cons_succ]
    refine wpAnyH_take (i := 6) (oi := { dst := some 43, op := Go.Op.binOp Go.BinOp.gtr 3 (Go.Operand.tmp 39) (Go.Operand.tmp 42) 3, type := 4, pos := "laws.go:323", after := #[{ on := 2, ground := Go.Ground.data }, { on := 5, ground := Go.Ground.data }], guard := none }) (v := ?ve6_7) rfl (by kernel_rfl) (by kernel_rfl) (by kernel_rfl) (fun _ _ _ h => h) (Or.inl ⟨by rfl, ?he6_7⟩) hHeld ?re6_7
    case he6_7 =>
      intro wS hSw
      clear hSw
      have g1p : ¬ ((AP.length : Int) < (P.length : Int)) := by omega
      have g1q : ¬ (AP.length < P.length) := by omega
      have g1r : decide (AP.length < P.length) = false := decide_eq_false (by omega)
      (try dsimp only at hSw)
      go_simp
      try with_reducible rfl
    case re6_7 =>
    simp only [Act.put, List.setIfInBounds_toArray, List.set_cons_zero, List.set_cons_succ]
    refine wpAnyH_take (i := 7) (oi := { dst := some 44, op := Go.Op.move (Go.Operand.tmp 43), type := 4, pos := "laws.go:323", after := #[{ on := 6, ground := Go.Ground.data }], guard := none }) (v := ?ve7_8) rfl (by kernel_rfl) (by kernel_rfl) (by kernel_rfl) (fun _ _ _ h => h) (Or.inl ⟨by rfl, ?he7_8⟩) hHeld ?re7_8
    case he7_8 =>
      intro wS hSw
      clear hSw
      have g1p : ¬ ((AP.length : Int) < (P.length : Int)) := by omega
      have g1q : ¬ (AP.length < P.length) := by omega
      have g1r : decide (AP.length < P.length) = false := decide_eq_false (by omega)
      (try dsimp only at hSw)
      go_simp
      try with_reducible rfl
    case re7_8 =>
    simp only [Act.put, List.setIfInBounds_toArray, List.set_cons_zero, List.set_cons_succ]
    refine wpAnyH_take (i := 8) (oi := { dst := some 45, op := Go.Op.fieldAddr 32 (Go.Operand.tmp 6) 1, type := 0, pos := "laws.go:323", after := #[{ on := 7, ground := Go.Ground.guard }], guard := some (7, false) }) (v := ?ve8_9) rfl (by kernel_rfl) (by kernel_rfl) (by kernel_rfl) (fun _ _ _ h => h) (Or.inl ⟨by rfl, ?he8_9⟩) hHeld ?re8_9
    case he8_9 =>
      intro wS hSw
      (try dsimp only at hSw)
      go_simp
      try with_reducible rfl
    case re8_9 =>
    simp only [Act.put, List.setIfInBounds_toArray, List.set_cons_zero, List.set_cons_succ]
    refine wpAnyH_take (i := 9) (oi := { dst := some 46, op := Go.Op.load 28 (Go.Operand.tmp 45), type := 28, pos := "laws.go:323", after := #[{ on := 8, ground := Go.Ground.data }, { on := 7, ground := Go.Ground.guard }], guard := some (7, false) }) (v := ?ve9_10) rfl (by kernel_rfl) (by kernel_rfl) (by kernel_rfl) (fun _ _ _ h => h) (Or.inl ⟨by rfl, ?he9_10⟩) hHeld ?re9_10
    case he9_10 =>
      intro wS hSw
      obtain ⟨y0, y1, y2⟩ := unhide KEEP3 _ hSw
      clear hSw
      (try dsimp only at hSw)
      go_simp
      try with_reducible rfl
    case re9_10 =>
    simp only [Act.put, List.setIfInBounds_toArray, List.set_cons_zero, List.set_cons_succ]
    refine wpAnyH_take (i := 10) (oi := { dst := some 47, op := Go.Op.fieldAddr 32 (Go.Operand.tmp 7) 1, type := 0, pos := "laws.go:323", after := #[{ on := 7, ground := Go.Ground.guard }], guard := some (7, false) }) (v := ?ve10_11) rfl (by kernel_rfl) (by kernel_rfl) (by kernel_rfl) (fun _ _ _ h => h) (Or.inl ⟨by rfl, ?he10_11⟩) hHeld ?re10_11
    case he10_11 =>
      intro wS hSw
      (try dsimp only at hSw)
      go_simp
      try with_reducible rfl
    case re10_11 =>
    simp only [Act.put, List.setIfInBounds_toArray, List.set_cons_zero, List.set_cons_succ]
    refine wpAnyH_take (i := 11) (oi := { dst := some 48, op := Go.Op.load 28 (Go.Operand.tmp 47), type := 28, pos := "laws.go:323", after := #[{ on := 10, ground := Go.Ground.data }, { on := 7, ground := Go.Ground.guard }], guard := some (7, false) }) (v := ?ve11_12) rfl (by kernel_rfl) (by kernel_rfl) (by kernel_rfl) (fun _ _ _ h => h) (Or.inl ⟨by rfl, ?he11_12⟩) hHeld ?re11_12
    case he11_12 =>
      intro wS hSw
      obtain ⟨y0, y1, y2⟩ := unhide KEEP3 _ hSw
      clear hSw
      (try dsimp only at hSw)
      go_simp
      try with_reducible rfl
    case re11_12 =>
    simp only [Act.put, List.setIfInBounds_toArray, List.set_cons_zero, List.set_cons_succ]
    refine wpAnyH_take (i := 12) (oi := { dst := some 49, op := Go.Op.fieldAddr 32 (Go.Operand.tmp 6) 1, type := 0, pos := "laws.go:323", after := #[{ on := 7, ground := Go.Ground.guard }], guard := some (7, false) }) (v := ?ve12_13) rfl (by kernel_rfl) (by kernel_rfl) (by kernel_rfl) (fun _ _ _ h => h) (Or.inl ⟨by rfl, ?he12_13⟩) hHeld ?re12_13
    case he12_13 =>
      intro wS hSw
      (try dsimp only at hSw)
      go_simp
      try with_reducible rfl
    case re12_13 =>
    simp only [Act.put, List.setIfInBounds_toArray, List.set_cons_zero, List.set_cons_succ]
    refine wpAnyH_take (i := 13) (oi := { dst := some 50, op := Go.Op.load 28 (Go.Operand.tmp 49), type := 28, pos := "laws.go:323", after := #[{ on := 12, ground := Go.Ground.data }, { on := 7, ground := Go.Ground.guard }], guard := some (7, false) }) (v := ?ve13_14) rfl (by kernel_rfl) (by kernel_rfl) (by kernel_rfl) (fun _ _ _ h => h) (Or.inl ⟨by rfl, ?he13_14⟩) hHeld ?re13_14
    case he13_14 =>
      intro wS hSw
      obtain ⟨y0, y1, y2⟩ := unhide KEEP3 _ hSw
      clear hSw
      (try dsimp only at hSw)
      go_simp
      try with_reducible rfl
    case re13_14 =>
    simp only [Act.put, List.setIfInBounds_toArray, List.set_cons_zero, List.set_cons_succ]
    refine wpAnyH_take (i := 14) (oi := { dst := some 51, op := Go.Op.call { callee := Go.Callee.builtin Go.Builtin.len, args := #[Go.Operand.tmp 50], argTypes := #[28] }, type := 3, pos := "laws.go:323", after := #[{ on := 13, ground := Go.Ground.data }, { on := 7, ground := Go.Ground.guard }], guard := some (7, false) }) (v := ?ve14_15) rfl (by kernel_rfl) (by kernel_rfl) (by kernel_rfl) (fun _ _ _ h => h) (Or.inl ⟨by rfl, ?he14_15⟩) hHeld ?re14_15
    case he14_15 =>
      intro wS hSw
      (try dsimp only at hSw)
      go_simp
      try with_reducible rfl
    case re14_15 =>
    simp only [Act.put, List.setIfInBounds_toArray, List.set_cons_zero, List.set_cons_succ]
    refine wpAnyH_take (i := 15) (oi := { dst := some 52, op := Go.Op.slice 28 (Go.Operand.tmp 48) none (some (Go.Operand.tmp 51)) none, type := 28, pos := "laws.go:323", after := #[{ on := 11, ground := Go.Ground.data }, { on := 14, ground := Go.Ground.data }, { on := 7, ground := Go.Ground.guard }], guard := some (7, false) }) (v := ?ve15_16) rfl (by kernel_rfl) (by kernel_rfl) (by kernel_rfl) (fun _ _ _ h => h) (Or.inl ⟨by rfl, ?he15_16⟩) hHeld ?re15_16
    case he15_16 =>
      intro wS hSw
      clear hSw
      have kd2 := kd
      (try dsimp only at hSw)
      go_simp
      try with_reducible rfl
    case re15_16 =>
    simp only [Act.put, List.setIfInBounds_toArray, List.set_cons_zero, List.set_cons_succ]
    refine wpAnyH_ready (rs := [16]) (by kernel_rfl) (by simp) ?_
    refine AllReadyH.cons (o := { dst := some 53, op := Go.Op.call { callee := Go.Callee.value (Go.Operand.func 13), args := #[Go.Operand.tmp 46, Go.Operand.tmp 52], argTypes := #[28, 28] }, type := 4, pos := "laws.go:323", after := #[{ on := 9, ground := Go.Ground.data }, { on := 15, ground := Go.Ground.data }, { on := 7, ground := Go.Ground.chain }, { on := 7, ground := Go.Ground.guard }], guard := some (7, false) }) rfl (fun K hK => ?_) AllReadyH.nil
    go_simp
    go_at_call 13
    refine (unhide LN _ hHeld).mono ?_
    rintro e v1 ⟨rfl, hbw⟩
    try go_wp2_with fail
    refine hK.out _ _ (hHeld.trans (hbw.mono hHeld.size)) (fun hHeld => ?_)
    clear hK K
    try simp only [Act.put, List.setIfInBounds_toArray, List.set_cons_zero, List.set_cons_succ]
    refine wpAnyH_take (i := 17) (oi := { dst := some 54, op := Go.Op.unOp Go.UnOp.not 4 (Go.Operand.tmp 53), type := 4, pos := "laws.go:323", after := #[{ on := 16, ground := Go.Ground.data }, { on := 7, ground := Go.Ground.guard }], guard := some (7, false) }) (v := ?ve17_17) rfl (by kernel_rfl) (by kernel_rfl) (by kernel_rfl) (fun _ _ _ h => h) (Or.inl ⟨by rfl, ?he17_17⟩) hHeld ?re17_17
    case he17_17 =>
      intro wS hSw
      (try dsimp only at hSw)
      go_simp
      try with_reducible rfl
    case re17_17 =>
    simp only [Act.put, List.setIfInBounds_toArray, List.set_cons_zero, List.set_cons_succ]
    refine wpAnyH_take (i := 18) (oi := { dst := some 55, op := Go.Op.pick (Go.Operand.tmp 44) (Go.Operand.const (Go.Value.bool true)) (Go.Operand.tmp 54), type := 4, pos := "laws.go:323", after := #[{ on := 7, ground := Go.Ground.data }, { on := 17, ground := Go.Ground.data }], guard := none }) (v := ?ve18_18) rfl (by kernel_rfl) (by kernel_rfl) (by kernel_rfl) (fun _ _ _ h => h) (Or.inl ⟨by rfl, ?he18_18⟩) hHeld ?re18_18
    case he18_18 =>
      intro wS hSw
      (try dsimp only at hSw)
      go_simp
      try with_reducible rfl
    case re18_18 =>
    simp only [Act.put, List.setIfInBounds_toArray, List.set_cons_zero, List.set_cons_succ]
    refine wpAnyH_take (i := 19) (oi := { dst := some 56, op := Go.Op.move (Go.Operand.tmp 55), type := 4, pos := "laws.go:323", after := #[{ on := 18, ground := Go.Ground.data }, { on := 16, ground := Go.Ground.chain }], guard := none }) (v := ?ve19_19) rfl (by kernel_rfl) (by kernel_rfl) (by kernel_rfl) (fun _ _ _ h => h) (Or.inl ⟨by rfl, ?he19_19⟩) hHeld ?re19_19
    case he19_19 =>
      intro wS hSw
      (try dsimp only at hSw)
      go_simp
      try with_reducible rfl
    case re19_19 =>
    simp only [Act.put, List.setIfInBounds_toArray, List.set_cons_zero, List.set_cons_succ]
    refine wpAnyH_take (i := 20) (oi := { dst := some 57, op := Go.Op.fieldAddr 32 (Go.Operand.tmp 7) 1, type := 0, pos := "laws.go:323", after := #[{ on := 19, ground := Go.Ground.guard }], guard := some (19, false) }) (v := ?ve20_20) rfl (by kernel_rfl) (by kernel_rfl) (by kernel_rfl) (fun _ _ _ h => h) (Or.inl ⟨by rfl, ?he20_20⟩) hHeld ?re20_20
    case he20_20 =>
      intro wS hSw
      (try dsimp only at hSw)
      go_simp
      try with_reducible rfl
    case re20_20 =>
    simp only [Act.put, List.setIfInBounds_toArray, List.set_cons_zero, List.set_cons_succ]
    refine wpAnyH_take (i := 21) (oi := { dst := some 58, op := Go.Op.load 28 (Go.Operand.tmp 57), type := 28, pos := "laws.go:323", after := #[{ on := 20, ground := Go.Ground.data }, { on := 19, ground := Go.Ground.guard }], guard := some (19, false) }) (v := ?ve21_21) rfl (by kernel_rfl) (by kernel_rfl) (by kernel_rfl) (fun _ _ _ h => h) (Or.inl ⟨by rfl, ?he21_21⟩) hHeld ?re21_21
    case he21_21 =>
      intro wS hSw
      obtain ⟨y0, y1, y2⟩ := unhide KEEP3 _ hSw
      clear hSw
      (try dsimp only at hSw)
      go_simp
      try with_reducible rfl
    case re21_21 =>
    simp only [Act.put, List.setIfInBounds_toArray, List.set_cons_zero, List.set_cons_succ]
    refine wpAnyH_take (i := 22) (oi := { dst := some 59, op := Go.Op.call { callee := Go.Callee.builtin Go.Builtin.len, args := #[Go.Operand.tmp 58], argTypes := #[28] }, type := 3, pos := "laws.go:323", after := #[{ on := 21, ground := Go.Ground.data }, { on := 19, ground := Go.Ground.guard }], guard := some (19, false) }) (v := ?ve22_22) rfl (by kernel_rfl) (by kernel_rfl) (by kernel_rfl) (fun _ _ _ h => h) (Or.inl ⟨by rfl, ?he22_22⟩) hHeld ?re22_22
    case he22_22 =>
      intro wS hSw
      (try dsimp only at hSw)
      go_simp
      try with_reducible rfl
    case re22_22 =>
    simp only [Act.put, List.setIfInBounds_toArray, List.set_cons_zero, List.set_cons_succ]
    refine wpAnyH_take (i := 23) (oi := { dst := some 60, op := Go.Op.fieldAddr 27 (Go.Operand.tmp 3) 0, type := 0, pos := "laws.go:323", after := #[{ on := 19, ground := Go.Ground.guard }], guard := some (19, false) }) (v := ?ve23_23) rfl (by kernel_rfl) (by kernel_rfl) (by kernel_rfl) (fun _ _ _ h => h) (Or.inl ⟨by rfl, ?he23_23⟩) hHeld ?re23_23
    case he23_23 =>
      intro wS hSw
      (try dsimp only at hSw)
      go_simp
      try with_reducible rfl
    case re23_23 =>
    simp only [Act.put, List.setIfInBounds_toArray, List.set_cons_zero, List.set_cons_succ]
    refine wpAnyH_take (i := 24) (oi := { dst := some 61, op := Go.Op.load 24 (Go.Operand.tmp 60), type := 24, pos := "laws.go:323", after := #[{ on := 23, ground := Go.Ground.data }, { on := 19, ground := Go.Ground.guard }], guard := some (19, false) }) (v := ?ve24_24) rfl (by kernel_rfl) (by kernel_rfl) (by kernel_rfl) (fun _ _ _ h => h) (Or.inl ⟨by rfl, ?he24_24⟩) hHeld ?re24_24
    case he24_24 =>
      intro wS hSw
      obtain ⟨y0, y1, y2⟩ := unhide KEEP3 _ hSw
      clear hSw
      (try dsimp only at hSw)
      go_simp
      try with_reducible rfl
    case re24_24 =>
    simp only [Act.put, List.setIfInBounds_toArray, List.set_cons_zero, List.set_cons_succ]
    refine wpAnyH_take (i := 25) (oi := { dst := some 62, op := Go.Op.call { callee := Go.Callee.builtin Go.Builtin.len, args := #[Go.Operand.tmp 61], argTypes := #[24] }, type := 3, pos := "laws.go:323", after := #[{ on := 24, ground := Go.Ground.data }, { on := 19, ground := Go.Ground.guard }], guard := some (19, false) }) (v := ?ve25_25) rfl (by kernel_rfl) (by kernel_rfl) (by kernel_rfl) (fun _ _ _ h => h) (Or.inl ⟨by rfl, ?he25_25⟩) hHeld ?re25_25
    case he25_25 =>
      intro wS hSw
      (try dsimp only at hSw)
      go_simp
      try with_reducible rfl
    case re25_25 =>
    simp only [Act.put, List.setIfInBounds_toArray, List.set_cons_zero, List.set_cons_succ]
    refine wpAnyH_take (i := 26) (oi := { dst := some 63, op := Go.Op.binOp Go.BinOp.neq 3 (Go.Operand.tmp 59) (Go.Operand.tmp 62) 3, type := 4, pos := "laws.go:323", after := #[{ on := 22, ground := Go.Ground.data }, { on := 25, ground := Go.Ground.data }, { on := 19, ground := Go.Ground.guard }], guard := some (19, false) }) (v := ?ve26_26) rfl (by kernel_rfl) (by kernel_rfl) (by kernel_rfl) (fun _ _ _ h => h) (Or.inl ⟨by rfl, ?he26_26⟩) hHeld ?re26_26
    case he26_26 =>
      intro wS hSw
      (try dsimp only at hSw)
      go_simp
      try with_reducible rfl
    case re26_26 =>
    simp only [Act.put, List.setIfInBounds_toArray, List.set_cons_zero, List.set_cons_succ]
    refine wpAnyH_take (i := 27) (oi := { dst := some 64, op := Go.Op.pick (Go.Operand.tmp 56) (Go.Operand.const (Go.Value.bool true)) (Go.Operand.tmp 63), type := 4, pos := "laws.go:323", after := #[{ on := 19, ground := Go.Ground.data }, { on := 26, ground := Go.Ground.data }], guard := none }) (v := ?ve27_27) rfl (by kernel_rfl) (by kernel_rfl) (by kernel_rfl) (fun _ _ _ h => h) (Or.inl ⟨by rfl, ?he27_27⟩) hHeld ?re27_27
    case he27_27 =>
      intro wS hSw
      (try dsimp only at hSw)
      go_simp
      try with_reducible rfl
    case re27_27 =>
    simp only [Act.put, List.setIfInBounds_toArray, List.set_cons_zero, List.set_cons_succ]
    refine wpAnyH_done (by kernel_rfl) ?_ _
    refine NoPanic.normal ?_
    have hb8 := hHeld
    clear hHeld
    replace HX3 := hide ((unhide HX3).keep hb8)
    replace HB2 := hide ((unhide HB2).keep hb8)
    replace HB3 := hide ((unhide HB3).keep hb8)
    replace HRX := hide ((unhide HRX).later hb8)
    replace HRC := hide ((unhide HRC).later hb8)
    replace HRV := hide ((unhide HRV).later hb8)
    replace HR2 := hide ((unhide HR2).later hb8)
    replace HR3 := hide ((unhide HR3).later hb8)
    replace HB := hide ((unhide HB).trans (hb8.mono (unhide HB).size))
    clear hb8 KEEP3 LN g1 g2 hcap3 kd hbw
    have z0 : (v1).cell? ⟨w1.heap.size, 0, none⟩ = some (.slice a8 x.centers.length c8) := (unhide HX3).at 0 _ rfl
    have z1 : (v1).cell? ⟨w1.heap.size, 1, none⟩ = some (.slice a9 x.lists.length c9) := (unhide HX3).at 1 _ rfl
    have L4 := hide (implSearchIvf _ x _ vec 5 n _ (unhide HRX) (unhide HRV))
    rw [e4] at L4
    go_wp2_with fail
    clear z0 z1
    refine (unhide L4).mono ?_
    rintro e w4 ⟨cs, rfl, O, hb4⟩
    obtain ⟨a4, d4, rfl, R4⟩ := open_HitsResult O.reads
    simp only at R4 ⊢
    clear O
    have nb4 : Below w4.heap.size w4 (w4.alloc (.cells #[.int .i64 0, .slice a4 A.length d4] 37)) := (Below.refl _ _).alloc (Nat.le_refl _) _
    have x4 : Box 0 #[.int .i64 0, .slice a4 A.length d4] 37 (w4.alloc (.cells #[.int .i64 0, .slice a4 A.length d4] 37)) w4.heap.size := newBox (Nat.zero_le _)
    replace HX3 := hide (((unhide HX3).keep hb4).keep nb4)
    replace HB2 := hide (((unhide HB2).keep hb4).keep nb4)
    replace HB3 := hide (((unhide HB3).keep hb4).keep nb4)
    replace HRX := hide (((unhide HRX).later hb4).later nb4)
    replace HRC := hide (((unhide HRC).later hb4).later nb4)
    replace HRV := hide (((unhide HRV).later hb4).later nb4)
    replace HR2 := hide (((unhide HR2).later hb4).later nb4)
    replace HR3 := hide (((unhide HR3).later hb4).later nb4)
    have HB4 := hide x4
    have HR4 := hide (R4.later nb4)
    replace HB := hide (((unhide HB).trans (hb4.mono (unhide HB).size)).trans (nb4.mono (Nat.le_trans (unhide HB).size hb4.size)))
    clear R4 nb4 x4 hb4 L4
    have z0 : (w4.alloc (.cells #[.int .i64 0, .slice a4 A.length d4] 37)).cell? ⟨w1.heap.size, 0, none⟩ = some (.slice a8 x.centers.length c8) := (unhide HX3).at 0 _ rfl
    have z1 : (w4.alloc (.cells #[.int .i64 0, .slice a4 A.length d4] 37)).cell? ⟨w1.heap.size, 1, none⟩ = some (.slice a9 x.lists.length c9) := (unhide HX3).at 1 _ rfl
    have L5 := hide (implSearchIvf _ x _ vec 5 6 _ (unhide HRX) (unhide HRV))
    rw [e5] at L5
    go_wp2_with fail
    generalize w4.alloc (.cells #[.int .i64 0, .slice a4 A.length d4] 37) = W4 at *
    clear z0 z1
    refine (unhide L5).mono ?_
    rintro e w5 ⟨cs, rfl, O, hb5⟩
    obtain ⟨a5, d5, rfl, R5⟩ := open_HitsResult O.reads
    simp only at R5 ⊢
    clear O
    have nb5 : Below w5.heap.size w5 (w5.alloc (.cells #[.int .i64 0, .slice a5 B.length d5] 37)) := (Below.refl _ _).alloc (Nat.le_refl _) _
    have x5 : Box 0 #[.int .i64 0, .slice a5 B.length d5] 37 (w5.alloc (.cells #[.int .i64 0, .slice a5 B.length d5] 37)) w5.heap.size := newBox (Nat.zero_le _)
    replace HX3 := hide (((unhide HX3).keep hb5).keep nb5)
    replace HB2 := hide (((unhide HB2).keep hb5).keep nb5)
    replace HB3 := hide (((unhide HB3).keep hb5).keep nb5)
    replace HB4 := hide (((unhide HB4).keep hb5).keep nb5)
    replace HRX := hide (((unhide HRX).later hb5).later nb5)
    replace HRC := hide (((unhide HRC).later hb5).later nb5)
    replace HRV := hide (((unhide HRV).later hb5).later nb5)
    replace HR2 := hide (((unhide HR2).later hb5).later nb5)
    replace HR3 := hide (((unhide HR3).later hb5).later nb5)
    replace HR4 := hide (((unhide HR4).later hb5).later nb5)
    have HB5 := hide x5
    have HR5 := hide (R5.later nb5)
    replace HB := hide (((unhide HB).trans (hb5.mono (unhide HB).size)).trans (nb5.mono (Nat.le_trans (unhide HB).size hb5.size)))
    clear R5 nb5 x5 hb5 L5
    go_wp2_with fail
    generalize w5.alloc (.cells #[.int .i64 0, .slice a5 B.length d5] 37) = wz at *
    have KEEP : Hid (∀ W, Below wz.heap.size wz W → W.cell? ⟨w2.heap.size, 1, none⟩ = some (.slice a1 P.length d1) ∧ W.cell? ⟨w1.heap.size, 0, none⟩ = some (.slice a8 x.centers.length c8) ∧ W.cell? ⟨w4.heap.size, 1, none⟩ = some (.slice a4 A.length d4) ∧ W.cell? ⟨w5.heap.size, 1, none⟩ = some (.slice a5 B.length d5)) := fun W hW =>
      ⟨((unhide HB2).keep hW).at 1 _ rfl, ((unhide HX3).keep hW).at 0 _ rfl, ((unhide HB4).keep hW).at 1 _ rfl, ((unhide HB5).keep hW).at 1 _ rfl⟩
    have LNR : Hid (∀ W, Below wz.heap.size wz W → Calls Try.prog 16 #[.slice a8 x.centers.length c8, .slice av vec.length dv] W fun e w' => e = .returned (.agg #[.int .i64 0, .int .i64 ((nr : Nat) : Int)]) ∧ Below W.heap.size W w') := fun W hW => by
      refine (implNearest _ x.centers _ vec W ((unhide HRC).later hW) ((unhide HRV).later hW)).mono ?_
      rintro e w' ⟨cs, rfl, O, hb⟩
      rw [e6] at O
      obtain ⟨bl, hl⟩ := O.reads
      obtain ⟨rfl, -⟩ := lies_IntResult.1 hl
      exact ⟨rfl, hb⟩
    have hfi := fieldIR1p 0 ((nr : Nat) : Int)
    clear e3 e4 e5 e6 HX3 HB3 HB4 HB5 HRX HRC HRV HR3
    go_loopw [10] (fun i wr => ∃ k : Nat, k ≤ A.length ∧ i = .int .i64 k ∧ Below wz.heap.size wz wr) (fun i _ => A.length - (intOf i).toNat)
    case atStart => exact ⟨0, Nat.zero_le _, rfl, Below.refl _ _⟩
    case round =>
      obtain ⟨k, hk, rfl, hBr⟩ := hrel
      obtain ⟨y0, y1, y2, y3⟩ := unhide KEEP _ hBr
      have HBr := hide hBr
      clear hBr
      by_cases hlt : k < A.length
      · obtain ⟨hkB, hbt⟩ := unhide HAB k hlt
        obtain ⟨b4, o4, rfl, hbl4⟩ := Lay.sl_addr (unhide HR4) (by omega)
        obtain ⟨row, hc, hr⟩ := Lay.row_at (unhide HR4) hlt
        obtain ⟨bl, hlh⟩ := hr
        obtain ⟨rfl, -⟩ := lies_Hit.1 hlh
        have p0 : wz.cell? ⟨b4, o4 + k * 2, none⟩ = some (.int .i64 (A[k]).id) := hc 0 (by decide)
        have p1 : wz.cell? ⟨b4, o4 + k * 2 + 1, none⟩ = some (.int .i64 (A[k]).score) := hc 1 (by decide)
        clear hc hlh
        obtain ⟨b5, o5, rfl, hbl5⟩ := Lay.sl_addr (unhide HR5) (by omega)
        obtain ⟨row, hc, hr⟩ := Lay.row_at (unhide HR5) hkB
        obtain ⟨bl, hlh⟩ := hr
        obtain ⟨rfl, -⟩ := lies_Hit.1 hlh
        have q0 : wz.cell? ⟨b5, o5 + k * 2, none⟩ = some (.int .i64 (B[k]).id) := hc 0 (by decide)
        have q1 : wz.cell? ⟨b5, o5 + k * 2 + 1, none⟩ = some (.int .i64 (B[k]).score) := hc 1 (by decide)
        clear hc hlh
        have LB : Hid (∀ W, Calls Try.prog 15 #[.agg #[.int .i64 (A[k]).id, .int .i64 (A[k]).score], .agg #[.int .i64 (B[k]).id, .int .i64 (B[k]).score]] W fun e w' => e = .returned (.bool false) ∧ Below W.heap.size W w') := fun W => by
          have h9 := implBetter (A[k]).id (A[k]).score (B[k]).id (B[k]).score W
          rwa [hbt] at h9
        generalize (A[k]).id = i1 at *
        generalize (A[k]).score = i2 at *
        generalize (B[k]).id = j1 at *
        generalize (B[k]).score = j2 at *
        have g1 : decide ((B.length : Int) ≤ (k : Int)) = false := decide_eq_false (by omega)
        have t1 : (0 : Int) ≤ (k : Int) := by omega
        have t2 : (k : Int) < (A.length : Int) := by omega
        have t3 : (k : Int) < (B.length : Int) := by omega
        clear hbt
        go_wp2_with fail
        clear y0 y1 y2 y3
        refine wp_region_noPanic ?_
        refine wp_region_held_drew (S := fun w' => Below wz.heap.size wz w') (by kernel_rfl) (unhide HBr).drew (fun hHeld => ?_)
        generalize wr.drew = wD at hHeld ⊢
        refine wpAnyH_take (i := 0) (oi := { dst := some 79, op := Go.Op.move (Go.Operand.tmp 10), type := 3, pos := "laws.go:329", after := #[], guard := none }) (v := ?vl0_1) rfl (by kernel_rfl) (by kernel_rfl) (by kernel_rfl) (fun _ _ _ h => h) (Or.inl ⟨by rfl, ?hl0_1⟩) hHeld ?rl0_1
        case hl0_1 =>
          intro wS hSw
          (try dsimp only at hSw)
          go_simp
          try with_reducible rfl
        case rl0_1 =>
        simp only [Act.put, List.setIfInBounds_toArray, List.set_cons_zero, List.set_cons_succ]
        refine wpAnyH_take (i := 1) (oi := { dst := some 80, op := Go.Op.fieldAddr 37 (Go.Operand.tmp 9) 1, type := 0, pos := "laws.go:329", after := #[], guard := none }) (v := ?vl1_2) rfl (by kernel_rfl) (by kernel_rfl) (by kernel_rfl) (fun _ _ _ h => h) (Or.inl ⟨by rfl, ?hl1_2⟩) hHeld ?rl1_2
        case hl1_2 =>
          intro wS hSw
          (try dsimp only at hSw)
          go_simp
          try with_reducible rfl
        case rl1_2 =>
        simp only [Act.put, List.setIfInBounds_toArray, List.set_cons_zero, List.set_cons_succ]
        refine wpAnyH_take (i := 2) (oi := { dst := some 81, op := Go.Op.load 35 (Go.Operand.tmp 80), type := 35, pos := "laws.go:329", after := #[{ on := 1, ground := Go.Ground.data }], guard := none }) (v := ?vl2_3) rfl (by kernel_rfl) (by kernel_rfl) (by kernel_rfl) (fun _ _ _ h => h) (Or.inl ⟨by rfl, ?hl2_3⟩) hHeld ?rl2_3
        case hl2_3 =>
          intro wS hSw
          obtain ⟨y0, y1, y2, y3⟩ := unhide KEEP _ hSw
          clear hSw
          (try dsimp only at hSw)
          go_simp
          try with_reducible rfl
        case rl2_3 =>
        simp only [Act.put, List.setIfInBounds_toArray, List.set_cons_zero, List.set_cons_succ]
        refine wpAnyH_take (i := 3) (oi := { dst := some 82, op := Go.Op.call { callee := Go.Callee.builtin Go.Builtin.len, args := #[Go.Operand.tmp 81], argTypes := #[35] }, type := 3, pos := "laws.go:329", after := #[{ on := 2, ground := Go.Ground.data }], guard := none }) (v := ?vl3_4) rfl (by kernel_rfl) (by kernel_rfl) (by kernel_rfl) (fun _ _ _ h => h) (Or.inl ⟨by rfl, ?hl3_4⟩) hHeld ?rl3_4
        case hl3_4 =>
          intro wS hSw
          (try dsimp only at hSw)
          go_simp
          try with_reducible rfl
        case rl3_4 =>
        simp only [Act.put, List.setIfInBounds_toArray, List.set_cons_zero, List.set_cons_succ]
        refine wpAnyH_take (i := 4) (oi := { dst := some 83, op := Go.Op.binOp Go.BinOp.geq 3 (Go.Operand.tmp 79) (Go.Operand.tmp 82) 3, type := 4, pos := "laws.go:329", after := #[{ on := 0, ground := Go.Ground.data }, { on := 3, ground := Go.Ground.data }], guard := none }) (v := ?vl4_5) rfl (by kernel_rfl) (by kernel_rfl) (by kernel_rfl) (fun _ _ _ h => h) (Or.inl ⟨by rfl, ?hl4_5⟩) hHeld ?rl4_5
        case hl4_5 =>
          intro wS hSw
          clear hSw
          have g1p : ¬ ((B.length : Int) ≤ (k : Int)) := by omega
          have g1q : ¬ (B.length ≤ k) := by omega
          have g1r : decide (B.length ≤ k) = false := decide_eq_false (by omega)
          (try dsimp only at hSw)
          go_simp
          try with_reducible rfl
        case rl4_5 =>
        simp only [Act.put, List.setIfInBounds_toArray, List.set_cons_zero, List.set_cons_succ]
        refine wpAnyH_take (i := 5) (oi := { dst := some 84, op := Go.Op.move (Go.Operand.tmp 83), type := 4, pos := "laws.go:329", after := #[{ on := 4, ground := Go.Ground.data }], guard := none }) (v := ?vl5_6) rfl (by kernel_rfl) (by kernel_rfl) (by kernel_rfl) (fun _ _ _ h => h) (Or.inl ⟨by rfl, ?hl5_6⟩) hHeld ?rl5_6
        case hl5_6 =>
          intro wS hSw
          (try dsimp only at hSw)
          go_simp
          try with_reducible rfl
        case rl5_6 =>
        simp only [Act.put, List.setIfInBounds_toArray, List.set_cons_zero, List.set_cons_succ]
        refine wpAnyH_take (i := 6) (oi := { dst := some 85, op := Go.Op.fieldAddr 37 (Go.Operand.tmp 8) 1, type := 0, pos := "laws.go:329", after := #[{ on := 5, ground := Go.Ground.guard }], guard := some (5, false) }) (v := ?vl6_7) rfl (by kernel_rfl) (by kernel_rfl) (by kernel_rfl) (fun _ _ _ h => h) (Or.inl ⟨by rfl, ?hl6_7⟩) hHeld ?rl6_7
        case hl6_7 =>
          intro wS hSw
          (try dsimp only at hSw)
          go_simp
          try with_reducible rfl
        case rl6_7 =>
        simp only [Act.put, List.setIfInBounds_toArray, List.set_cons_zero, List.set_cons_succ]
        refine wpAnyH_take (i := 7) (oi := { dst := some 86, op := Go.Op.load 35 (Go.Operand.tmp 85), type := 35, pos := "laws.go:329", after := #[{ on := 6, ground := Go.Ground.data }, { on := 5, ground := Go.Ground.guard }], guard := some (5, false) }) (v := ?vl7_8) rfl (by kernel_rfl) (by kernel_rfl) (by kernel_rfl) (fun _ _ _ h => h) (Or.inl ⟨by rfl, ?hl7_8⟩) hHeld ?rl7_8
        case hl7_8 =>
          intro wS hSw
          obtain ⟨y0, y1, y2, y3⟩ := unhide KEEP _ hSw
          clear hSw
          (try dsimp only at hSw)
          go_simp
          try with_reducible rfl
        case rl7_8 =>
        simp only [Act.put, List.setIfInBounds_toArray, List.set_cons_zero, List.set_cons_succ]
        refine wpAnyH_take (i := 8) (oi := { dst := some 87, op := Go.Op.move (Go.Operand.tmp 10), type := 3, pos := "laws.go:329", after := #[{ on := 5, ground := Go.Ground.guard }], guard := some (5, false) }) (v := ?vl8_9) rfl (by kernel_rfl) (by kernel_rfl) (by kernel_rfl) (fun _ _ _ h => h) (Or.inl ⟨by rfl, ?hl8_9⟩) hHeld ?rl8_9
        case hl8_9 =>
          intro wS hSw
          (try dsimp only at hSw)
          go_simp
          try with_reducible rfl
        case rl8_9 =>
        simp only [Act.put, List.setIfInBounds_toArray, List.set_cons_zero, List.set_cons_succ]
        refine wpAnyH_take (i := 9) (oi := { dst := some 88, op := Go.Op.indexAddr 35 (Go.Operand.tmp 86) (Go.Operand.tmp 87), type := 0, pos := "laws.go:329", after := #[{ on := 7, ground := Go.Ground.data }, { on := 8, ground := Go.Ground.data }, { on := 5, ground := Go.Ground.guard }], guard := some (5, false) }) (v := ?vl9_10) rfl (by kernel_rfl) (by kernel_rfl) (by kernel_rfl) (fun _ _ _ h => h) (Or.inl ⟨by rfl, ?hl9_10⟩) hHeld ?rl9_10
        case hl9_10 =>
          intro wS hSw
          (try dsimp only at hSw)
          go_simp
          try with_reducible rfl
        case rl9_10 =>
        simp only [Act.put, List.setIfInBounds_toArray, List.set_cons_zero, List.set_cons_succ]
        refine wpAnyH_take (i := 10) (oi := { dst := some 89, op := Go.Op.load 41 (Go.Operand.tmp 88), type := 41, pos := "laws.go:329", after := #[{ on := 9, ground := Go.Ground.data }, { on := 5, ground := Go.Ground.guard }], guard := some (5, false) }) (v := ?vl10_11) rfl (by kernel_rfl) (by kernel_rfl) (by kernel_rfl) (fun _ _ _ h => h) (Or.inl ⟨by rfl, ?hl10_11⟩) hHeld ?rl10_11
        case hl10_11 =>
          intro wS hSw
          have m0 := (hSw.cell (p := ⟨b4, o4 + k * 2, none⟩) hbl4).trans p0
          have m1 := (hSw.cell (p := ⟨b4, o4 + k * 2 + 1, none⟩) hbl4).trans p1
          clear hSw
          (try dsimp only at hSw)
          go_simp
          try with_reducible rfl
        case rl10_11 =>
        simp only [Act.put, List.setIfInBounds_toArray, List.set_cons_zero, List.set_cons_succ]
        refine wpAnyH_take (i := 11) (oi := { dst := some 90, op := Go.Op.fieldAddr 37 (Go.Operand.tmp 9) 1, type := 0, pos := "laws.go:329", after := #[{ on := 5, ground := Go.Ground.guard }], guard := some (5, false) }) (v := ?vl11_12) rfl (by kernel_rfl) (by kernel_rfl) (by kernel_rfl) (fun _ _ _ h => h) (Or.inl ⟨by rfl, ?hl11_12⟩) hHeld ?rl11_12
        case hl11_12 =>
          intro wS hSw
          (try dsimp only at hSw)
          go_simp
          try with_reducible rfl
        case rl11_12 =>
        simp only [Act.put, List.setIfInBounds_toArray, List.set_cons_zero, List.set_cons_succ]
        refine wpAnyH_take (i := 12) (oi := { dst := some 91, op := Go.Op.load 35 (Go.Operand.tmp 90), type := 35, pos := "laws.go:329", after := #[{ on := 11, ground := Go.Ground.data }, { on := 5, ground := Go.Ground.guard }], guard := some (5, false) }) (v := ?vl12_13) rfl (by kernel_rfl) (by kernel_rfl) (by kernel_rfl) (fun _ _ _ h => h) (Or.inl ⟨by rfl, ?hl12_13⟩) hHeld ?rl12_13
        case hl12_13 =>
          intro wS hSw
          obtain ⟨y0, y1, y2, y3⟩ := unhide KEEP _ hSw
          clear hSw
          (try dsimp only at hSw)
          go_simp
          try with_reducible rfl
        case rl12_13 =>
        simp only [Act.put, List.setIfInBounds_toArray, List.set_cons_zero, List.set_cons_succ]
        refine wpAnyH_take (i := 13) (oi := { dst := some 92, op := Go.Op.move (Go.Operand.tmp 10), type := 3, pos := "laws.go:329", after := #[{ on := 5, ground := Go.Ground.guard }], guard := some (5, false) }) (v := ?vl13_14) rfl (by kernel_rfl) (by kernel_rfl) (by kernel_rfl) (fun _ _ _ h => h) (Or.inl ⟨by rfl, ?hl13_14⟩) hHeld ?rl13_14
        case hl13_14 =>
          intro wS hSw
          (try dsimp only at hSw)
          go_simp
          try with_reducible rfl
        case rl13_14 =>
        simp only [Act.put, List.setIfInBounds_toArray, List.set_cons_zero, List.set_cons_succ]
        refine wpAnyH_take (i := 14) (oi := { dst := some 93, op := Go.Op.indexAddr 35 (Go.Operand.tmp 91) (Go.Operand.tmp 92), type := 0, pos := "laws.go:329", after := #[{ on := 12, ground := Go.Ground.data }, { on := 13, ground := Go.Ground.data }, { on := 5, ground := Go.Ground.guard }], guard := some (5, false) }) (v := ?vl14_15) rfl (by kernel_rfl) (by kernel_rfl) (by kernel_rfl) (fun _ _ _ h => h) (Or.inl ⟨by rfl, ?hl14_15⟩) hHeld ?rl14_15
        case hl14_15 =>
          intro wS hSw
          (try dsimp only at hSw)
          go_simp
          try with_reducible rfl
        case rl14_15 =>
        simp only [Act.put, List.setIfInBounds_toArray, List.set_cons_zero, List.set_cons_succ]
        refine wpAnyH_take (i := 15) (oi := { dst := some 94, op := Go.Op.load 41 (Go.Operand.tmp 93), type := 41, pos := "laws.go:329", after := #[{ on := 14, ground := Go.Ground.data }, { on := 5, ground := Go.Ground.guard }], guard := some (5, false) }) (v := ?vl15_16) rfl (by kernel_rfl) (by kernel_rfl) (by kernel_rfl) (fun _ _ _ h => h) (Or.inl ⟨by rfl, ?hl15_16⟩) hHeld ?rl15_16
        case hl15_16 =>
          intro wS hSw
          have m0 := (hSw.cell (p := ⟨b5, o5 + k * 2, none⟩) hbl5).trans q0
          have m1 := (hSw.cell (p := ⟨b5, o5 + k * 2 + 1, none⟩) hbl5).trans q1
          clear hSw
          (try dsimp only at hSw)
          go_simp
          try with_reducible rfl
        case rl15_16 =>
        simp only [Act.put, List.setIfInBounds_toArray, List.set_cons_zero, List.set_cons_succ]
        refine wpAnyH_ready (rs := [16]) (by kernel_rfl) (by simp) ?_
        refine AllReadyH.cons (o := { dst := some 95, op := Go.Op.call { callee := Go.Callee.value (Go.Operand.func 15), args := #[Go.Operand.tmp 89, Go.Operand.tmp 94], argTypes := #[41, 41] }, type := 4, pos := "laws.go:329", after := #[{ on := 10, ground := Go.Ground.data }, { on := 15, ground := Go.Ground.data }, { on := 5, ground := Go.Ground.chain }, { on := 5, ground := Go.Ground.guard }], guard := some (5, false) }) rfl (fun K hK => ?_) AllReadyH.nil
        go_simp
        go_at_call 15
        refine (unhide LB _).mono ?_
        rintro e v2 ⟨rfl, hbw⟩
        try go_wp2_with fail
        refine hK.out _ _ (hHeld.trans (hbw.mono hHeld.size)) (fun hHeld => ?_)
        clear hK K
        try simp only [Act.put, List.setIfInBounds_toArray, List.set_cons_zero, List.set_cons_succ]
        refine wpAnyH_take (i := 17) (oi := { dst := some 96, op := Go.Op.pick (Go.Operand.tmp 84) (Go.Operand.const (Go.Value.bool true)) (Go.Operand.tmp 95), type := 4, pos := "laws.go:329", after := #[{ on := 5, ground := Go.Ground.data }, { on := 16, ground := Go.Ground.data }], guard := none }) (v := ?vl17_17) rfl (by kernel_rfl) (by kernel_rfl) (by kernel_rfl) (fun _ _ _ h => h) (Or.inl ⟨by rfl, ?hl17_17⟩) hHeld ?rl17_17
        case hl17_17 =>
          intro wS hSw
          (try dsimp only at hSw)
          go_simp
          try with_reducible rfl
        case rl17_17 =>
        simp only [Act.put, List.setIfInBounds_toArray, List.set_cons_zero, List.set_cons_succ]
        refine wpAnyH_done (by kernel_rfl) ?_ _
        refine NoPanic.normal ?_
        have HB9 := hide hHeld
        clear hHeld p0 p1 q0 q1
        go_wp2_with fail
        go_roundw
        case rel => exact ⟨k + 1, by omega, by go_num, unhide HB9⟩
        case measure => simp [intOf]; omega
      · obtain rfl : k = A.length := by omega
        clear HAB HR4 HR5
        have t0 : ((0 : Nat) : Int) = 0 := rfl
        by_cases hfull : (P.length : Int) = n
        · have g1 : ((P.length : Int) == n) = true := by rw [hfull]; simp
          clear hfull HPN
          by_cases hemp : P.length = 0
          · have g2 : ((P.length : Int) == 0) = true := by rw [hemp]; rfl
            clear hemp
            go_wp2_with fail
            clear y0 y1 y2 y3
            refine wp_region_noPanic ?_
            refine wp_region_held_drew (S := fun w' => Below wz.heap.size wz w') (by kernel_rfl) (unhide HBr).drew (fun hHeld => ?_)
            generalize wr.drew = wD at hHeld ⊢
            refine wpAnyH_take (i := 0) (oi := { dst := some 97, op := Go.Op.fieldAddr 32 (Go.Operand.tmp 6) 1, type := 0, pos := "laws.go:333", after := #[], guard := none }) (v := ?vm10_1) rfl (by kernel_rfl) (by kernel_rfl) (by kernel_rfl) (fun _ _ _ h => h) (Or.inl ⟨by rfl, ?hm10_1⟩) hHeld ?rm10_1
            case hm10_1 =>
              intro wS hSw
              (try dsimp only at hSw)
              go_simp
              try with_reducible rfl
            case rm10_1 =>
            simp only [Act.put, List.setIfInBounds_toArray, List.set_cons_zero, List.set_cons_succ]
            refine wpAnyH_take (i := 1) (oi := { dst := some 98, op := Go.Op.load 28 (Go.Operand.tmp 97), type := 28, pos := "laws.go:333", after := #[{ on := 0, ground := Go.Ground.data }], guard := none }) (v := ?vm11_2) rfl (by kernel_rfl) (by kernel_rfl) (by kernel_rfl) (fun _ _ _ h => h) (Or.inl ⟨by rfl, ?hm11_2⟩) hHeld ?rm11_2
            case hm11_2 =>
              intro wS hSw
              obtain ⟨y0, y1, y2, y3⟩ := unhide KEEP _ hSw
              clear hSw
              (try dsimp only at hSw)
              go_simp
              try with_reducible rfl
            case rm11_2 =>
            simp only [Act.put, List.setIfInBounds_toArray, List.set_cons_zero, List.set_cons_succ]
            refine wpAnyH_take (i := 2) (oi := { dst := some 99, op := Go.Op.call { callee := Go.Callee.builtin Go.Builtin.len, args := #[Go.Operand.tmp 98], argTypes := #[28] }, type := 3, pos := "laws.go:333", after := #[{ on := 1, ground := Go.Ground.data }], guard := none }) (v := ?vm12_3) rfl (by kernel_rfl) (by kernel_rfl) (by kernel_rfl) (fun _ _ _ h => h) (Or.inl ⟨by rfl, ?hm12_3⟩) hHeld ?rm12_3
            case hm12_3 =>
              intro wS hSw
              (try dsimp only at hSw)
              go_simp
              try with_reducible rfl
            case rm12_3 =>
            simp only [Act.put, List.setIfInBounds_toArray, List.set_cons_zero, List.set_cons_succ]
            refine wpAnyH_take (i := 3) (oi := { dst := some 100, op := Go.Op.move (Go.Operand.tmp 5), type := 2, pos := "laws.go:333", after := #[], guard := none }) (v := ?vm13_4) rfl (by kernel_rfl) (by kernel_rfl) (by kernel_rfl) (fun _ _ _ h => h) (Or.inl ⟨by rfl, ?hm13_4⟩) hHeld ?rm13_4
            case hm13_4 =>
              intro wS hSw
              (try dsimp only at hSw)
              go_simp
              try with_reducible rfl
            case rm13_4 =>
            simp only [Act.put, List.setIfInBounds_toArray, List.set_cons_zero, List.set_cons_succ]
            refine wpAnyH_take (i := 4) (oi := { dst := some 101, op := Go.Op.binOp Go.BinOp.eql 2 (Go.Operand.tmp 99) (Go.Operand.tmp 100) 2, type := 4, pos := "laws.go:333", after := #[{ on := 2, ground := Go.Ground.data }, { on := 3, ground := Go.Ground.data }], guard := none }) (v := ?vm14_5) rfl (by kernel_rfl) (by kernel_rfl) (by kernel_rfl) (fun _ _ _ h => h) (Or.inl ⟨by rfl, ?hm14_5⟩) hHeld ?rm14_5
            case hm14_5 =>
              intro wS hSw
              (try dsimp only at hSw)
              go_simp
              try with_reducible rfl
            case rm14_5 =>
            simp only [Act.put, List.setIfInBounds_toArray, List.set_cons_zero, List.set_cons_succ]
            refine wpAnyH_take (i := 5) (oi := { dst := some 102, op := Go.Op.move (Go.Operand.tmp 101), type := 4, pos := "laws.go:333", after := #[{ on := 4, ground := Go.Ground.data }], guard := none }) (v := ?vm15_6) rfl (by kernel_rfl) (by kernel_rfl) (by kernel_rfl) (fun _ _ _ h => h) (Or.inl ⟨by rfl, ?hm15_6⟩) hHeld ?rm15_6
            case hm15_6 =>
              intro wS hSw
              (try dsimp only at hSw)
              go_simp
              try with_reducible rfl
            case rm15_6 =>
            simp only [Act.put, List.setIfInBounds_toArray, List.set_cons_zero, List.set_cons_succ]
            refine wpAnyH_take (i := 6) (oi := { dst := some 103, op := Go.Op.fieldAddr 32 (Go.Operand.tmp 6) 1, type := 0, pos := "laws.go:333", after := #[{ on := 5, ground := Go.Ground.guard }], guard := some (5, false) }) (v := undef) rfl (by kernel_rfl) (by kernel_rfl) (by kernel_rfl) (fun _ _ _ h => h) (Or.inr ⟨by rfl, rfl⟩) hHeld ?_
            simp only [Act.put, List.setIfInBounds_toArray, List.set_cons_zero, List.set_cons_succ]
            refine wpAnyH_take (i := 7) (oi := { dst := some 104, op := Go.Op.load 28 (Go.Operand.tmp 103), type := 28, pos := "laws.go:333", after := #[{ on := 6, ground := Go.Ground.data }, { on := 5, ground := Go.Ground.guard }], guard := some (5, false) }) (v := undef) rfl (by kernel_rfl) (by kernel_rfl) (by kernel_rfl) (fun _ _ _ h => h) (Or.inr ⟨by rfl, rfl⟩) hHeld ?_
            simp only [Act.put, List.setIfInBounds_toArray, List.set_cons_zero, List.set_cons_succ]
            refine wpAnyH_take (i := 8) (oi := { dst := some 105, op := Go.Op.call { callee := Go.Callee.builtin Go.Builtin.len, args := #[Go.Operand.tmp 104], argTypes := #[28] }, type := 3, pos := "laws.go:333", after := #[{ on := 7, ground := Go.Ground.data }, { on := 5, ground := Go.Ground.guard }], guard := some (5, false) }) (v := undef) rfl (by kernel_rfl) (by kernel_rfl) (by kernel_rfl) (fun _ _ _ h => h) (Or.inr ⟨by rfl, rfl⟩) hHeld ?_
            simp only [Act.put, List.setIfInBounds_toArray, List.set_cons_zero, List.set_cons_succ]
            refine wpAnyH_take (i := 9) (oi := { dst := some 106, op := Go.Op.fieldAddr 27 (Go.Operand.tmp 3) 0, type := 0, pos := "laws.go:333", after := #[{ on := 5, ground := Go.Ground.guard }], guard := some (5, false) }) (v := undef) rfl (by kernel_rfl) (by kernel_rfl) (by kernel_rfl) (fun _ _ _ h => h) (Or.inr ⟨by rfl, rfl⟩) hHeld ?_
            simp only [Act.put, List.setIfInBounds_toArray, List.set_cons_zero, List.set_cons_succ]
            refine wpAnyH_take (i := 10) (oi := { dst := some 107, op := Go.Op.load 24 (Go.Operand.tmp 106), type := 24, pos := "laws.go:333", after := #[{ on := 9, ground := Go.Ground.data }, { on := 5, ground := Go.Ground.guard }], guard := some (5, false) }) (v := undef) rfl (by kernel_rfl) (by kernel_rfl) (by kernel_rfl) (fun _ _ _ h => h) (Or.inr ⟨by rfl, rfl⟩) hHeld ?_
            simp only [Act.put, List.setIfInBounds_toArray, List.set_cons_zero, List.set_cons_succ]
            refine wpAnyH_take (i := 11) (oi := { dst := some 108, op := Go.Op.call { callee := Go.Callee.builtin Go.Builtin.len, args := #[Go.Operand.tmp 107], argTypes := #[24] }, type := 3, pos := "laws.go:333", after := #[{ on := 10, ground := Go.Ground.data }, { on := 5, ground := Go.Ground.guard }], guard := some (5, false) }) (v := undef) rfl (by kernel_rfl) (by kernel_rfl) (by kernel_rfl) (fun _ _ _ h => h) (Or.inr ⟨by rfl, rfl⟩) hHeld ?_
            simp only [Act.put, List.setIfInBounds_toArray, List.set_cons_zero, List.set_cons_succ]
            refine wpAnyH_take (i := 12) (oi := { dst := some 109, op := Go.Op.binOp Go.BinOp.eql 3 (Go.Operand.tmp 105) (Go.Operand.tmp 108) 3, type := 4, pos := "laws.go:333", after := #[{ on := 8, ground := Go.Ground.data }, { on := 11, ground := Go.Ground.data }, { on := 5, ground := Go.Ground.guard }], guard := some (5, false) }) (v := undef) rfl (by kernel_rfl) (by kernel_rfl) (by kernel_rfl) (fun _ _ _ h => h) (Or.inr ⟨by rfl, rfl⟩) hHeld ?_
            simp only [Act.put, List.setIfInBounds_toArray, List.set_cons_zero, List.set_cons_succ]
            refine wpAnyH_take (i := 13) (oi := { dst := some 110, op := Go.Op.pick (Go.Operand.tmp 102) (Go.Operand.const (Go.Value.bool true)) (Go.Operand.tmp 109), type := 4, pos := "laws.go:333", after := #[{ on := 5, ground := Go.Ground.data }, { on := 12, ground := Go.Ground.data }], guard := none }) (v := ?vm113_14) rfl (by kernel_rfl) (by kernel_rfl) (by kernel_rfl) (fun _ _ _ h => h) (Or.inl ⟨by rfl, ?hm113_14⟩) hHeld ?rm113_14
            case hm113_14 =>
              intro wS hSw
              (try dsimp only at hSw)
              go_simp
              try with_reducible rfl
            case rm113_14 =>
            simp only [Act.put, List.setIfInBounds_toArray, List.set_cons_zero, List.set_cons_succ]
            refine wpAnyH_take (i := 14) (oi := { dst := some 111, op := Go.Op.move (Go.Operand.tmp 110), type := 4, pos := "laws.go:333", after := #[{ on := 13, ground := Go.Ground.data }, { on := 5, ground := Go.Ground.chain }], guard := none }) (v := ?vm114_15) rfl (by kernel_rfl) (by kernel_rfl) (by kernel_rfl) (fun _ _ _ h => h) (Or.inl ⟨by rfl, ?hm114_15⟩) hHeld ?rm114_15
            case hm114_15 =>
              intro wS hSw
              (try dsimp only at hSw)
              go_simp
              try with_reducible rfl
            case rm114_15 =>
            simp only [Act.put, List.setIfInBounds_toArray, List.set_cons_zero, List.set_cons_succ]
            refine wpAnyH_take (i := 15) (oi := { dst := some 112, op := Go.Op.fieldAddr 32 (Go.Operand.tmp 6) 1, type := 0, pos := "laws.go:333", after := #[{ on := 14, ground := Go.Ground.guard }], guard := some (14, true) }) (v := ?vm115_16) rfl (by kernel_rfl) (by kernel_rfl) (by kernel_rfl) (fun _ _ _ h => h) (Or.inl ⟨by rfl, ?hm115_16⟩) hHeld ?rm115_16
            case hm115_16 =>
              intro wS hSw
              (try dsimp only at hSw)
              go_simp
              try with_reducible rfl
            case rm115_16 =>
            simp only [Act.put, List.setIfInBounds_toArray, List.set_cons_zero, List.set_cons_succ]
            refine wpAnyH_take (i := 16) (oi := { dst := some 113, op := Go.Op.load 28 (Go.Operand.tmp 112), type := 28, pos := "laws.go:333", after := #[{ on := 15, ground := Go.Ground.data }, { on := 14, ground := Go.Ground.guard }], guard := some (14, true) }) (v := ?vm116_17) rfl (by kernel_rfl) (by kernel_rfl) (by kernel_rfl) (fun _ _ _ h => h) (Or.inl ⟨by rfl, ?hm116_17⟩) hHeld ?rm116_17
            case hm116_17 =>
              intro wS hSw
              obtain ⟨y0, y1, y2, y3⟩ := unhide KEEP _ hSw
              clear hSw
              (try dsimp only at hSw)
              go_simp
              try with_reducible rfl
            case rm116_17 =>
            simp only [Act.put, List.setIfInBounds_toArray, List.set_cons_zero, List.set_cons_succ]
            refine wpAnyH_take (i := 17) (oi := { dst := some 114, op := Go.Op.call { callee := Go.Callee.builtin Go.Builtin.len, args := #[Go.Operand.tmp 113], argTypes := #[28] }, type := 3, pos := "laws.go:333", after := #[{ on := 16, ground := Go.Ground.data }, { on := 14, ground := Go.Ground.guard }], guard := some (14, true) }) (v := ?vm117_18) rfl (by kernel_rfl) (by kernel_rfl) (by kernel_rfl) (fun _ _ _ h => h) (Or.inl ⟨by rfl, ?hm117_18⟩) hHeld ?rm117_18
            case hm117_18 =>
              intro wS hSw
              (try dsimp only at hSw)
              go_simp
              try with_reducible rfl
            case rm117_18 =>
            simp only [Act.put, List.setIfInBounds_toArray, List.set_cons_zero, List.set_cons_succ]
            refine wpAnyH_take (i := 18) (oi := { dst := some 115, op := Go.Op.binOp Go.BinOp.eql 3 (Go.Operand.tmp 114) (Go.Operand.const (Go.Value.int Go.IntKind.i64 0)) 3, type := 4, pos := "laws.go:333", after := #[{ on := 17, ground := Go.Ground.data }, { on := 14, ground := Go.Ground.guard }], guard := some (14, true) }) (v := ?vm118_19) rfl (by kernel_rfl) (by kernel_rfl) (by kernel_rfl) (fun _ _ _ h => h) (Or.inl ⟨by rfl, ?hm118_19⟩) hHeld ?rm118_19
            case hm118_19 =>
              intro wS hSw
              (try dsimp only at hSw)
              go_simp
              try with_reducible rfl
            case rm118_19 =>
            simp only [Act.put, List.setIfInBounds_toArray, List.set_cons_zero, List.set_cons_succ]
            refine wpAnyH_take (i := 19) (oi := { dst := some 116, op := Go.Op.move (Go.Operand.tmp 115), type := 4, pos := "laws.go:333", after := #[{ on := 18, ground := Go.Ground.data }, { on := 14, ground := Go.Ground.chain }, { on := 14, ground := Go.Ground.guard }], guard := some (14, true) }) (v := ?vm119_20) rfl (by kernel_rfl) (by kernel_rfl) (by kernel_rfl) (fun _ _ _ h => h) (Or.inl ⟨by rfl, ?hm119_20⟩) hHeld ?rm119_20
            case hm119_20 =>
              intro wS hSw
              (try dsimp only at hSw)
              go_simp
              try with_reducible rfl
            case rm119_20 =>
            simp only [Act.put, List.setIfInBounds_toArray, List.set_cons_zero, List.set_cons_succ]
            refine wpAnyH_take (i := 20) (oi := { dst := some 117, op := Go.Op.fieldAddr 32 (Go.Operand.tmp 6) 1, type := 0, pos := "laws.go:333", after := #[{ on := 19, ground := Go.Ground.guard }], guard := some (19, false) }) (v := undef) rfl (by kernel_rfl) (by kernel_rfl) (by kernel_rfl) (fun _ _ _ h => h) (Or.inr ⟨by rfl, rfl⟩) hHeld ?_
            simp only [Act.put, List.setIfInBounds_toArray, List.set_cons_zero, List.set_cons_succ]
            refine wpAnyH_take (i := 21) (oi := { dst := some 118, op := Go.Op.load 28 (Go.Operand.tmp 117), type := 28, pos := "laws.go:333", after := #[{ on := 20, ground := Go.Ground.data }, { on := 19, ground := Go.Ground.guard }], guard := some (19, false) }) (v := undef) rfl (by kernel_rfl) (by kernel_rfl) (by kernel_rfl) (fun _ _ _ h => h) (Or.inr ⟨by rfl, rfl⟩) hHeld ?_
            simp only [Act.put, List.setIfInBounds_toArray, List.set_cons_zero, List.set_cons_succ]
            refine wpAnyH_take (i := 22) (oi := { dst := some 119, op := Go.Op.indexAddr 28 (Go.Operand.tmp 118) (Go.Operand.const (Go.Value.int Go.IntKind.i64 0)), type := 0, pos := "laws.go:333", after := #[{ on := 21, ground := Go.Ground.data }, { on := 19, ground := Go.Ground.guard }], guard := some (19, false) }) (v := undef) rfl (by kernel_rfl) (by kernel_rfl) (by kernel_rfl) (fun _ _ _ h => h) (Or.inr ⟨by rfl, rfl⟩) hHeld ?_
            simp only [Act.put, List.setIfInBounds_toArray, List.set_cons_zero, List.set_cons_succ]
            refine wpAnyH_take (i := 23) (oi := { dst := some 120, op := Go.Op.load 2 (Go.Operand.tmp 119), type := 2, pos := "laws.go:333", after := #[{ on := 22, ground := Go.Ground.data }, { on := 19, ground := Go.Ground.guard }], guard := some (19, false) }) (v := undef) rfl (by kernel_rfl) (by kernel_rfl) (by kernel_rfl) (fun _ _ _ h => h) (Or.inr ⟨by rfl, rfl⟩) hHeld ?_
            simp only [Act.put, List.setIfInBounds_toArray, List.set_cons_zero, List.set_cons_succ]
            refine wpAnyH_take (i := 24) (oi := { dst := some 121, op := Go.Op.fieldAddr 27 (Go.Operand.tmp 3) 0, type := 0, pos := "laws.go:333", after := #[{ on := 19, ground := Go.Ground.guard }], guard := some (19, false) }) (v := undef) rfl (by kernel_rfl) (by kernel_rfl) (by kernel_rfl) (fun _ _ _ h => h) (Or.inr ⟨by rfl, rfl⟩) hHeld ?_
            simp only [Act.put, List.setIfInBounds_toArray, List.set_cons_zero, List.set_cons_succ]
            refine wpAnyH_take (i := 25) (oi := { dst := some 122, op := Go.Op.load 24 (Go.Operand.tmp 121), type := 24, pos := "laws.go:333", after := #[{ on := 24, ground := Go.Ground.data }, { on := 19, ground := Go.Ground.guard }], guard := some (19, false) }) (v := undef) rfl (by kernel_rfl) (by kernel_rfl) (by kernel_rfl) (fun _ _ _ h => h) (Or.inr ⟨by rfl, rfl⟩) hHeld ?_
            simp only [Act.put, List.setIfInBounds_toArray, List.set_cons_zero, List.set_cons_succ]
            refine wpAnyH_take (i := 26) (oi := { dst := some 123, op := Go.Op.move (Go.Operand.tmp 4), type := 28, pos := "laws.go:333", after := #[{ on := 19, ground := Go.Ground.guard }], guard := some (19, false) }) (v := undef) rfl (by kernel_rfl) (by kernel_rfl) (by kernel_rfl) (fun _ _ _ h => h) (Or.inr ⟨by rfl, rfl⟩) hHeld ?_
            simp only [Act.put, List.setIfInBounds_toArray, List.set_cons_zero, List.set_cons_succ]
            refine wpAnyH_take (i := 27) (oi := { dst := some 124, op := Go.Op.call { callee := Go.Callee.value (Go.Operand.func 16), args := #[Go.Operand.tmp 122, Go.Operand.tmp 123], argTypes := #[24, 28] }, type := 43, pos := "laws.go:333", after := #[{ on := 25, ground := Go.Ground.data }, { on := 26, ground := Go.Ground.data }, { on := 19, ground := Go.Ground.chain }, { on := 19, ground := Go.Ground.guard }], guard := some (19, false) }) (v := undef) rfl (by kernel_rfl) (by kernel_rfl) (by kernel_rfl) (fun _ _ _ h => h) (Or.inr ⟨by rfl, rfl⟩) hHeld ?_
            simp only [Act.put, List.setIfInBounds_toArray, List.set_cons_zero, List.set_cons_succ]
            refine wpAnyH_take (i := 28) (oi := { dst := some 125, op := Go.Op.field 43 (Go.Operand.tmp 124) 1, type := 2, pos := "laws.go:333", after := #[{ on := 27, ground := Go.Ground.data }, { on := 19, ground := Go.Ground.guard }], guard := some (19, false) }) (v := undef) rfl (by kernel_rfl) (by kernel_rfl) (by kernel_rfl) (fun _ _ _ h => h) (Or.inr ⟨by rfl, rfl⟩) hHeld ?_
            simp only [Act.put, List.setIfInBounds_toArray, List.set_cons_zero, List.set_cons_succ]
            refine wpAnyH_take (i := 29) (oi := { dst := some 126, op := Go.Op.binOp Go.BinOp.eql 2 (Go.Operand.tmp 120) (Go.Operand.tmp 125) 2, type := 4, pos := "laws.go:333", after := #[{ on := 23, ground := Go.Ground.data }, { on := 28, ground := Go.Ground.data }, { on := 19, ground := Go.Ground.guard }], guard := some (19, false) }) (v := undef) rfl (by kernel_rfl) (by kernel_rfl) (by kernel_rfl) (fun _ _ _ h => h) (Or.inr ⟨by rfl, rfl⟩) hHeld ?_
            simp only [Act.put, List.setIfInBounds_toArray, List.set_cons_zero, List.set_cons_succ]
            refine wpAnyH_take (i := 30) (oi := { dst := some 127, op := Go.Op.pick (Go.Operand.tmp 116) (Go.Operand.const (Go.Value.bool true)) (Go.Operand.tmp 126), type := 4, pos := "laws.go:333", after := #[{ on := 19, ground := Go.Ground.data }, { on := 29, ground := Go.Ground.data }, { on := 14, ground := Go.Ground.guard }], guard := some (14, true) }) (v := ?vm130_31) rfl (by kernel_rfl) (by kernel_rfl) (by kernel_rfl) (fun _ _ _ h => h) (Or.inl ⟨by rfl, ?hm130_31⟩) hHeld ?rm130_31
            case hm130_31 =>
              intro wS hSw
              (try dsimp only at hSw)
              go_simp
              try with_reducible rfl
            case rm130_31 =>
            simp only [Act.put, List.setIfInBounds_toArray, List.set_cons_zero, List.set_cons_succ]
            refine wpAnyH_take (i := 31) (oi := { dst := some 128, op := Go.Op.pick (Go.Operand.tmp 111) (Go.Operand.tmp 127) (Go.Operand.const (Go.Value.bool false)), type := 4, pos := "laws.go:333", after := #[{ on := 14, ground := Go.Ground.data }, { on := 30, ground := Go.Ground.data }], guard := none }) (v := ?vm131_32) rfl (by kernel_rfl) (by kernel_rfl) (by kernel_rfl) (fun _ _ _ h => h) (Or.inl ⟨by rfl, ?hm131_32⟩) hHeld ?rm131_32
            case hm131_32 =>
              intro wS hSw
              (try dsimp only at hSw)
              go_simp
              try with_reducible rfl
            case rm131_32 =>
            simp only [Act.put, List.setIfInBounds_toArray, List.set_cons_zero, List.set_cons_succ]
            refine wpAnyH_take (i := 32) (oi := { dst := some 2, op := Go.Op.assign (Go.Operand.tmp 128), type := 4, pos := "laws.go:333", after := #[{ on := 31, ground := Go.Ground.data }, { on := 27, ground := Go.Ground.chain }, { on := 0, ground := Go.Ground.phase }, { on := 1, ground := Go.Ground.phase }, { on := 2, ground := Go.Ground.phase }, { on := 3, ground := Go.Ground.phase }, { on := 4, ground := Go.Ground.phase }, { on := 5, ground := Go.Ground.phase }, { on := 6, ground := Go.Ground.phase }, { on := 7, ground := Go.Ground.phase }, { on := 8, ground := Go.Ground.phase }, { on := 9, ground := Go.Ground.phase }, { on := 10, ground := Go.Ground.phase }, { on := 11, ground := Go.Ground.phase }, { on := 12, ground := Go.Ground.phase }, { on := 13, ground := Go.Ground.phase }, { on := 14, ground := Go.Ground.phase }, { on := 15, ground := Go.Ground.phase }, { on := 16, ground := Go.Ground.phase }, { on := 17, ground := Go.Ground.phase }, { on := 18, ground := Go.Ground.phase }, { on := 19, ground := Go.Ground.phase }, { on := 20, ground := Go.Ground.phase }, { on := 21, ground := Go.Ground.phase }, { on := 22, ground := Go.Ground.phase }, { on := 23, ground := Go.Ground.phase }, { on := 24, ground := Go.Ground.phase }, { on := 25, ground := Go.Ground.phase }, { on := 26, ground := Go.Ground.phase }, { on := 27, ground := Go.Ground.phase }, { on := 28, ground := Go.Ground.phase }, { on := 29, ground := Go.Ground.phase }, { on := 30, ground := Go.Ground.phase }, { on := 31, ground := Go.Ground.phase }], guard := none }) (v := ?vm132_33) rfl (by kernel_rfl) (by kernel_rfl) (by kernel_rfl) (fun _ _ _ h => h) (Or.inl ⟨by rfl, ?hm132_33⟩) hHeld ?rm132_33
            case hm132_33 =>
              intro wS hSw
              (try dsimp only at hSw)
              go_simp
              try with_reducible rfl
            case rm132_33 =>
            simp only [Act.put, List.setIfInBounds_toArray, List.set_cons_zero, List.set_cons_succ]
            refine wpAnyH_done (by kernel_rfl) ?_ _
            refine NoPanic.normal ?_
            have HB9 := hide ((unhide HB).trans (hHeld.mono (unhide HB).size))
            clear hHeld
            go_wp2_with fail
            go_ret
            exact ⟨rfl, unhide HB9⟩
          · have g2 : ((P.length : Int) == 0) = false := by simpa using hemp
            obtain ⟨b1, o1, rfl, hbl1⟩ := Lay.sl_addr (unhide HR2) (by omega)
            have hp0 := unhide HP0 (by omega)
            have p0 : wz.cell? ⟨b1, o1, none⟩ = some (.int .i64 ((nr : Nat) : Int)) := by
              obtain ⟨aa, cc, ee, -, hcells⟩ := Lay.ints_reads (unhide HR2)
              obtain ⟨bb, oo, e9, hc1⟩ := hcells (by omega)
              simp only [Value.slice.injEq] at ee
              obtain ⟨rfl, -, -⟩ := ee
              simp only [Option.some.injEq, Addr.mk.injEq, and_true] at e9
              obtain ⟨rfl, rfl⟩ := e9
              have := hc1 0 (by omega)
              rw [Nat.add_zero] at this
              rw [this, ← hp0]
              simp [List.getD, show 0 < P.length by omega]
            have g4 : (((nr : Nat) : Int) == ((nr : Nat) : Int)) = true := by simp
            have hlp : 0 < P.length := by omega
            clear hp0 hemp
            go_wp2_with fail
            clear y0 y1 y2 y3
            refine wp_region_noPanic ?_
            refine wp_region_held_drew (S := fun w' => Below wz.heap.size wz w') (by kernel_rfl) (unhide HBr).drew (fun hHeld => ?_)
            generalize wr.drew = wD at hHeld ⊢
            refine wpAnyH_take (i := 0) (oi := { dst := some 97, op := Go.Op.fieldAddr 32 (Go.Operand.tmp 6) 1, type := 0, pos := "laws.go:333", after := #[], guard := none }) (v := ?vn10_1) rfl (by kernel_rfl) (by kernel_rfl) (by kernel_rfl) (fun _ _ _ h => h) (Or.inl ⟨by rfl, ?hn10_1⟩) hHeld ?rn10_1
            case hn10_1 =>
              intro wS hSw
              (try dsimp only at hSw)
              go_simp
              try with_reducible rfl
            case rn10_1 =>
            simp only [Act.put, List.setIfInBounds_toArray, List.set_cons_zero, List.set_cons_succ]
            refine wpAnyH_take (i := 1) (oi := { dst := some 98, op := Go.Op.load 28 (Go.Operand.tmp 97), type := 28, pos := "laws.go:333", after := #[{ on := 0, ground := Go.Ground.data }], guard := none }) (v := ?vn11_2) rfl (by kernel_rfl) (by kernel_rfl) (by kernel_rfl) (fun _ _ _ h => h) (Or.inl ⟨by rfl, ?hn11_2⟩) hHeld ?rn11_2
            case hn11_2 =>
              intro wS hSw
              obtain ⟨y0, y1, y2, y3⟩ := unhide KEEP _ hSw
              clear hSw
              (try dsimp only at hSw)
              go_simp
              try with_reducible rfl
            case rn11_2 =>
            simp only [Act.put, List.setIfInBounds_toArray, List.set_cons_zero, List.set_cons_succ]
            refine wpAnyH_take (i := 2) (oi := { dst := some 99, op := Go.Op.call { callee := Go.Callee.builtin Go.Builtin.len, args := #[Go.Operand.tmp 98], argTypes := #[28] }, type := 3, pos := "laws.go:333", after := #[{ on := 1, ground := Go.Ground.data }], guard := none }) (v := ?vn12_3) rfl (by kernel_rfl) (by kernel_rfl) (by kernel_rfl) (fun _ _ _ h => h) (Or.inl ⟨by rfl, ?hn12_3⟩) hHeld ?rn12_3
            case hn12_3 =>
              intro wS hSw
              (try dsimp only at hSw)
              go_simp
              try with_reducible rfl
            case rn12_3 =>
            simp only [Act.put, List.setIfInBounds_toArray, List.set_cons_zero, List.set_cons_succ]
            refine wpAnyH_take (i := 3) (oi := { dst := some 100, op := Go.Op.move (Go.Operand.tmp 5), type := 2, pos := "laws.go:333", after := #[], guard := none }) (v := ?vn13_4) rfl (by kernel_rfl) (by kernel_rfl) (by kernel_rfl) (fun _ _ _ h => h) (Or.inl ⟨by rfl, ?hn13_4⟩) hHeld ?rn13_4
            case hn13_4 =>
              intro wS hSw
              (try dsimp only at hSw)
              go_simp
              try with_reducible rfl
            case rn13_4 =>
            simp only [Act.put, List.setIfInBounds_toArray, List.set_cons_zero, List.set_cons_succ]
            refine wpAnyH_take (i := 4) (oi := { dst := some 101, op := Go.Op.binOp Go.BinOp.eql 2 (Go.Operand.tmp 99) (Go.Operand.tmp 100) 2, type := 4, pos := "laws.go:333", after := #[{ on := 2, ground := Go.Ground.data }, { on := 3, ground := Go.Ground.data }], guard := none }) (v := ?vn14_5) rfl (by kernel_rfl) (by kernel_rfl) (by kernel_rfl) (fun _ _ _ h => h) (Or.inl ⟨by rfl, ?hn14_5⟩) hHeld ?rn14_5
            case hn14_5 =>
              intro wS hSw
              (try dsimp only at hSw)
              go_simp
              try with_reducible rfl
            case rn14_5 =>
            simp only [Act.put, List.setIfInBounds_toArray, List.set_cons_zero, List.set_cons_succ]
            refine wpAnyH_take (i := 5) (oi := { dst := some 102, op := Go.Op.move (Go.Operand.tmp 101), type := 4, pos := "laws.go:333", after := #[{ on := 4, ground := Go.Ground.data }], guard := none }) (v := ?vn15_6) rfl (by kernel_rfl) (by kernel_rfl) (by kernel_rfl) (fun _ _ _ h => h) (Or.inl ⟨by rfl, ?hn15_6⟩) hHeld ?rn15_6
            case hn15_6 =>
              intro wS hSw
              (try dsimp only at hSw)
              go_simp
              try with_reducible rfl
            case rn15_6 =>
            simp only [Act.put, List.setIfInBounds_toArray, List.set_cons_zero, List.set_cons_succ]
            refine wpAnyH_take (i := 6) (oi := { dst := some 103, op := Go.Op.fieldAddr 32 (Go.Operand.tmp 6) 1, type := 0, pos := "laws.go:333", after := #[{ on := 5, ground := Go.Ground.guard }], guard := some (5, false) }) (v := undef) rfl (by kernel_rfl) (by kernel_rfl) (by kernel_rfl) (fun _ _ _ h => h) (Or.inr ⟨by rfl, rfl⟩) hHeld ?_
            simp only [Act.put, List.setIfInBounds_toArray, List.set_cons_zero, List.set_cons_succ]
            refine wpAnyH_take (i := 7) (oi := { dst := some 104, op := Go.Op.load 28 (Go.Operand.tmp 103), type := 28, pos := "laws.go:333", after := #[{ on := 6, ground := Go.Ground.data }, { on := 5, ground := Go.Ground.guard }], guard := some (5, false) }) (v := undef) rfl (by kernel_rfl) (by kernel_rfl) (by kernel_rfl) (fun _ _ _ h => h) (Or.inr ⟨by rfl, rfl⟩) hHeld ?_
            simp only [Act.put, List.setIfInBounds_toArray, List.set_cons_zero, List.set_cons_succ]
            refine wpAnyH_take (i := 8) (oi := { dst := some 105, op := Go.Op.call { callee := Go.Callee.builtin Go.Builtin.len, args := #[Go.Operand.tmp 104], argTypes := #[28] }, type := 3, pos := "laws.go:333", after := #[{ on := 7, ground := Go.Ground.data }, { on := 5, ground := Go.Ground.guard }], guard := some (5, false) }) (v := undef) rfl (by kernel_rfl) (by kernel_rfl) (by kernel_rfl) (fun _ _ _ h => h) (Or.inr ⟨by rfl, rfl⟩) hHeld ?_
            simp only [Act.put, List.setIfInBounds_toArray, List.set_cons_zero, List.set_cons_succ]
            refine wpAnyH_take (i := 9) (oi := { dst := some 106, op := Go.Op.fieldAddr 27 (Go.Operand.tmp 3) 0, type := 0, pos := "laws.go:333", after := #[{ on := 5, ground := Go.Ground.guard }], guard := some (5, false) }) (v := undef) rfl (by kernel_rfl) (by kernel_rfl) (by kernel_rfl) (fun _ _ _ h => h) (Or.inr ⟨by rfl, rfl⟩) hHeld ?_
            simp only [Act.put, List.setIfInBounds_toArray, List.set_cons_zero, List.set_cons_succ]
            refine wpAnyH_take (i := 10) (oi := { dst := some 107, op := Go.Op.load 24 (Go.Operand.tmp 106), type := 24, pos := "laws.go:333", after := #[{ on := 9, ground := Go.Ground.data }, { on := 5, ground := Go.Ground.guard }], guard := some (5, false) }) (v := undef) rfl (by kernel_rfl) (by kernel_rfl) (by kernel_rfl) (fun _ _ _ h => h) (Or.inr ⟨by rfl, rfl⟩) hHeld ?_
            simp only [Act.put, List.setIfInBounds_toArray, List.set_cons_zero, List.set_cons_succ]
            refine wpAnyH_take (i := 11) (oi := { dst := some 108, op := Go.Op.call { callee := Go.Callee.builtin Go.Builtin.len, args := #[Go.Operand.tmp 107], argTypes := #[24] }, type := 3, pos := "laws.go:333", after := #[{ on := 10, ground := Go.Ground.data }, { on := 5, ground := Go.Ground.guard }], guard := some (5, false) }) (v := undef) rfl (by kernel_rfl) (by kernel_rfl) (by kernel_rfl) (fun _ _ _ h => h) (Or.inr ⟨by rfl, rfl⟩) hHeld ?_
            simp only [Act.put, List.setIfInBounds_toArray, List.set_cons_zero, List.set_cons_succ]
            refine wpAnyH_take (i := 12) (oi := { dst := some 109, op := Go.Op.binOp Go.BinOp.eql 3 (Go.Operand.tmp 105) (Go.Operand.tmp 108) 3, type := 4, pos := "laws.go:333", after := #[{ on := 8, ground := Go.Ground.data }, { on := 11, ground := Go.Ground.data }, { on := 5, ground := Go.Ground.guard }], guard := some (5, false) }) (v := undef) rfl (by kernel_rfl) (by kernel_rfl) (by kernel_rfl) (fun _ _ _ h => h) (Or.inr ⟨by rfl, rfl⟩) hHeld ?_
            simp only [Act.put, List.setIfInBounds_toArray, List.set_cons_zero, List.set_cons_succ]
            refine wpAnyH_take (i := 13) (oi := { dst := some 110, op := Go.Op.pick (Go.Operand.tmp 102) (Go.Operand.const (Go.Value.bool true)) (Go.Operand.tmp 109), type := 4, pos := "laws.go:333", after := #[{ on := 5, ground := Go.Ground.data }, { on := 12, ground := Go.Ground.data }], guard := none }) (v := ?vn113_14) rfl (by kernel_rfl) (by kernel_rfl) (by kernel_rfl) (fun _ _ _ h => h) (Or.inl ⟨by rfl, ?hn113_14⟩) hHeld ?rn113_14
            case hn113_14 =>
              intro wS hSw
              (try dsimp only at hSw)
              go_simp
              try with_reducible rfl
            case rn113_14 =>
            simp only [Act.put, List.setIfInBounds_toArray, List.set_cons_zero, List.set_cons_succ]
            refine wpAnyH_take (i := 14) (oi := { dst := some 111, op := Go.Op.move (Go.Operand.tmp 110), type := 4, pos := "laws.go:333", after := #[{ on := 13, ground := Go.Ground.data }, { on := 5, ground := Go.Ground.chain }], guard := none }) (v := ?vn114_15) rfl (by kernel_rfl) (by kernel_rfl) (by kernel_rfl) (fun _ _ _ h => h) (Or.inl ⟨by rfl, ?hn114_15⟩) hHeld ?rn114_15
            case hn114_15 =>
              intro wS hSw
              (try dsimp only at hSw)
              go_simp
              try with_reducible rfl
            case rn114_15 =>
            simp only [Act.put, List.setIfInBounds_toArray, List.set_cons_zero, List.set_cons_succ]
            refine wpAnyH_take (i := 15) (oi := { dst := some 112, op := Go.Op.fieldAddr 32 (Go.Operand.tmp 6) 1, type := 0, pos := "laws.go:333", after := #[{ on := 14, ground := Go.Ground.guard }], guard := some (14, true) }) (v := ?vn115_16) rfl (by kernel_rfl) (by kernel_rfl) (by kernel_rfl) (fun _ _ _ h => h) (Or.inl ⟨by rfl, ?hn115_16⟩) hHeld ?rn115_16
            case hn115_16 =>
              intro wS hSw
              (try dsimp only at hSw)
              go_simp
              try with_reducible rfl
            case rn115_16 =>
            simp only [Act.put, List.setIfInBounds_toArray, List.set_cons_zero, List.set_cons_succ]
            refine wpAnyH_take (i := 16) (oi := { dst := some 113, op := Go.Op.load 28 (Go.Operand.tmp 112), type := 28, pos := "laws.go:333", after := #[{ on := 15, ground := Go.Ground.data }, { on := 14, ground := Go.Ground.guard }], guard := some (14, true) }) (v := ?vn116_17) rfl (by kernel_rfl) (by kernel_rfl) (by kernel_rfl) (fun _ _ _ h => h) (Or.inl ⟨by rfl, ?hn116_17⟩) hHeld ?rn116_17
            case hn116_17 =>
              intro wS hSw
              obtain ⟨y0, y1, y2, y3⟩ := unhide KEEP _ hSw
              clear hSw
              (try dsimp only at hSw)
              go_simp
              try with_reducible rfl
            case rn116_17 =>
            simp only [Act.put, List.setIfInBounds_toArray, List.set_cons_zero, List.set_cons_succ]
            refine wpAnyH_take (i := 17) (oi := { dst := some 114, op := Go.Op.call { callee := Go.Callee.builtin Go.Builtin.len, args := #[Go.Operand.tmp 113], argTypes := #[28] }, type := 3, pos := "laws.go:333", after := #[{ on := 16, ground := Go.Ground.data }, { on := 14, ground := Go.Ground.guard }], guard := some (14, true) }) (v := ?vn117_18) rfl (by kernel_rfl) (by kernel_rfl) (by kernel_rfl) (fun _ _ _ h => h) (Or.inl ⟨by rfl, ?hn117_18⟩) hHeld ?rn117_18
            case hn117_18 =>
              intro wS hSw
              (try dsimp only at hSw)
              go_simp
              try with_reducible rfl
            case rn117_18 =>
            simp only [Act.put, List.setIfInBounds_toArray, List.set_cons_zero, List.set_cons_succ]
            refine wpAnyH_take (i := 18) (oi := { dst := some 115, op := Go.Op.binOp Go.BinOp.eql 3 (Go.Operand.tmp 114) (Go.Operand.const (Go.Value.int Go.IntKind.i64 0)) 3, type := 4, pos := "laws.go:333", after := #[{ on := 17, ground := Go.Ground.data }, { on := 14, ground := Go.Ground.guard }], guard := some (14, true) }) (v := ?vn118_19) rfl (by kernel_rfl) (by kernel_rfl) (by kernel_rfl) (fun _ _ _ h => h) (Or.inl ⟨by rfl, ?hn118_19⟩) hHeld ?rn118_19
            case hn118_19 =>
              intro wS hSw
              (try dsimp only at hSw)
              go_simp
              try with_reducible rfl
            case rn118_19 =>
            simp only [Act.put, List.setIfInBounds_toArray, List.set_cons_zero, List.set_cons_succ]
            refine wpAnyH_take (i := 19) (oi := { dst := some 116, op := Go.Op.move (Go.Operand.tmp 115), type := 4, pos := "laws.go:333", after := #[{ on := 18, ground := Go.Ground.data }, { on := 14, ground := Go.Ground.chain }, { on := 14, ground := Go.Ground.guard }], guard := some (14, true) }) (v := ?vn119_20) rfl (by kernel_rfl) (by kernel_rfl) (by kernel_rfl) (fun _ _ _ h => h) (Or.inl ⟨by rfl, ?hn119_20⟩) hHeld ?rn119_20
            case hn119_20 =>
              intro wS hSw
              (try dsimp only at hSw)
              go_simp
              try with_reducible rfl
            case rn119_20 =>
            simp only [Act.put, List.setIfInBounds_toArray, List.set_cons_zero, List.set_cons_succ]
            refine wpAnyH_take (i := 20) (oi := { dst := some 117, op := Go.Op.fieldAddr 32 (Go.Operand.tmp 6) 1, type := 0, pos := "laws.go:333", after := #[{ on := 19, ground := Go.Ground.guard }], guard := some (19, false) }) (v := ?vn120_21) rfl (by kernel_rfl) (by kernel_rfl) (by kernel_rfl) (fun _ _ _ h => h) (Or.inl ⟨by rfl, ?hn120_21⟩) hHeld ?rn120_21
            case hn120_21 =>
              intro wS hSw
              (try dsimp only at hSw)
              go_simp
              try with_reducible rfl
            case rn120_21 =>
            simp only [Act.put, List.setIfInBounds_toArray, List.set_cons_zero, List.set_cons_succ]
            refine wpAnyH_take (i := 21) (oi := { dst := some 118, op := Go.Op.load 28 (Go.Operand.tmp 117), type := 28, pos := "laws.go:333", after := #[{ on := 20, ground := Go.Ground.data }, { on := 19, ground := Go.Ground.guard }], guard := some (19, false) }) (v := ?vn121_22) rfl (by kernel_rfl) (by kernel_rfl) (by kernel_rfl) (fun _ _ _ h => h) (Or.inl ⟨by rfl, ?hn121_22⟩) hHeld ?rn121_22
            case hn121_22 =>
              intro wS hSw
              obtain ⟨y0, y1, y2, y3⟩ := unhide KEEP _ hSw
              clear hSw
              (try dsimp only at hSw)
              go_simp
              try with_reducible rfl
            case rn121_22 =>
            simp only [Act.put, List.setIfInBounds_toArray, List.set_cons_zero, List.set_cons_succ]
            refine wpAnyH_take (i := 22) (oi := { dst := some 119, op := Go.Op.indexAddr 28 (Go.Operand.tmp 118) (Go.Operand.const (Go.Value.int Go.IntKind.i64 0)), type := 0, pos := "laws.go:333", after := #[{ on := 21, ground := Go.Ground.data }, { on := 19, ground := Go.Ground.guard }], guard := some (19, false) }) (v := ?vn122_23) rfl (by kernel_rfl) (by kernel_rfl) (by kernel_rfl) (fun _ _ _ h => h) (Or.inl ⟨by rfl, ?hn122_23⟩) hHeld ?rn122_23
            case hn122_23 =>
              intro wS hSw
              clear hSw
              have s1 : (0 : Int) < (P.length : Int) := by omega
              (try dsimp only at hSw)
              go_simp
              try with_reducible rfl
            case rn122_23 =>
            simp only [Act.put, List.setIfInBounds_toArray, List.set_cons_zero, List.set_cons_succ]
            refine wpAnyH_take (i := 23) (oi := { dst := some 120, op := Go.Op.load 2 (Go.Operand.tmp 119), type := 2, pos := "laws.go:333", after := #[{ on := 22, ground := Go.Ground.data }, { on := 19, ground := Go.Ground.guard }], guard := some (19, false) }) (v := ?vn123_24) rfl (by kernel_rfl) (by kernel_rfl) (by kernel_rfl) (fun _ _ _ h => h) (Or.inl ⟨by rfl, ?hn123_24⟩) hHeld ?rn123_24
            case hn123_24 =>
              intro wS hSw
              have m0 := (hSw.cell (p := ⟨b1, o1, none⟩) hbl1).trans p0
              clear hSw
              (try dsimp only at hSw)
              go_simp
              try with_reducible rfl
            case rn123_24 =>
            simp only [Act.put, List.setIfInBounds_toArray, List.set_cons_zero, List.set_cons_succ]
            refine wpAnyH_take (i := 24) (oi := { dst := some 121, op := Go.Op.fieldAddr 27 (Go.Operand.tmp 3) 0, type := 0, pos := "laws.go:333", after := #[{ on := 19, ground := Go.Ground.guard }], guard := some (19, false) }) (v := ?vn124_25) rfl (by kernel_rfl) (by kernel_rfl) (by kernel_rfl) (fun _ _ _ h => h) (Or.inl ⟨by rfl, ?hn124_25⟩) hHeld ?rn124_25
            case hn124_25 =>
              intro wS hSw
              (try dsimp only at hSw)
              go_simp
              try with_reducible rfl
            case rn124_25 =>
            simp only [Act.put, List.setIfInBounds_toArray, List.set_cons_zero, List.set_cons_succ]
            refine wpAnyH_take (i := 25) (oi := { dst := some 122, op := Go.Op.load 24 (Go.Operand.tmp 121), type := 24, pos := "laws.go:333", after := #[{ on := 24, ground := Go.Ground.data }, { on := 19, ground := Go.Ground.guard }], guard := some (19, false) }) (v := ?vn125_26) rfl (by kernel_rfl) (by kernel_rfl) (by kernel_rfl) (fun _ _ _ h => h) (Or.inl ⟨by rfl, ?hn125_26⟩) hHeld ?rn125_26
            case hn125_26 =>
              intro wS hSw
              obtain ⟨y0, y1, y2, y3⟩ := unhide KEEP _ hSw
              clear hSw
              (try dsimp only at hSw)
              go_simp
              try with_reducible rfl
            case rn125_26 =>
            simp only [Act.put, List.setIfInBounds_toArray, List.set_cons_zero, List.set_cons_succ]
            refine wpAnyH_take (i := 26) (oi := { dst := some 123, op := Go.Op.move (Go.Operand.tmp 4), type := 28, pos := "laws.go:333", after := #[{ on := 19, ground := Go.Ground.guard }], guard := some (19, false) }) (v := ?vn126_27) rfl (by kernel_rfl) (by kernel_rfl) (by kernel_rfl) (fun _ _ _ h => h) (Or.inl ⟨by rfl, ?hn126_27⟩) hHeld ?rn126_27
            case hn126_27 =>
              intro wS hSw
              (try dsimp only at hSw)
              go_simp
              try with_reducible rfl
            case rn126_27 =>
            simp only [Act.put, List.setIfInBounds_toArray, List.set_cons_zero, List.set_cons_succ]
            refine wpAnyH_ready (rs := [27]) (by kernel_rfl) (by simp) ?_
            refine AllReadyH.cons (o := { dst := some 124, op := Go.Op.call { callee := Go.Callee.value (Go.Operand.func 16), args := #[Go.Operand.tmp 122, Go.Operand.tmp 123], argTypes := #[24, 28] }, type := 43, pos := "laws.go:333", after := #[{ on := 25, ground := Go.Ground.data }, { on := 26, ground := Go.Ground.data }, { on := 19, ground := Go.Ground.chain }, { on := 19, ground := Go.Ground.guard }], guard := some (19, false) }) rfl (fun K hK => ?_) AllReadyH.nil
            go_simp
            go_at_call 16
            refine (unhide LNR _ hHeld).mono ?_
            rintro e v3 ⟨rfl, hbw⟩
            try go_wp2_with fail
            refine hK.out _ _ (hHeld.trans (hbw.mono hHeld.size)) (fun hHeld => ?_)
            clear hK K
            try simp only [Act.put, List.setIfInBounds_toArray, List.set_cons_zero, List.set_cons_succ]
            refine wpAnyH_take (i := 28) (oi := { dst := some 125, op := Go.Op.field 43 (Go.Operand.tmp 124) 1, type := 2, pos := "laws.go:333", after := #[{ on := 27, ground := Go.Ground.data }, { on := 19, ground := Go.Ground.guard }], guard := some (19, false) }) (v := ?vn128_28) rfl (by kernel_rfl) (by kernel_rfl) (by kernel_rfl) (fun _ _ _ h => h) (Or.inl ⟨by rfl, ?hn128_28⟩) hHeld ?rn128_28
            case hn128_28 =>
              intro wS hSw
              have yf := hfi
              clear hSw
              (try dsimp only at hSw)
              go_simp
              try with_reducible rfl
            case rn128_28 =>
            simp only [Act.put, List.setIfInBounds_toArray, List.set_cons_zero, List.set_cons_succ]
            refine wpAnyH_take (i := 29) (oi := { dst := some 126, op := Go.Op.binOp Go.BinOp.eql 2 (Go.Operand.tmp 120) (Go.Operand.tmp 125) 2, type := 4, pos := "laws.go:333", after := #[{ on := 23, ground := Go.Ground.data }, { on := 28, ground := Go.Ground.data }, { on := 19, ground := Go.Ground.guard }], guard := some (19, false) }) (v := ?vn129_29) rfl (by kernel_rfl) (by kernel_rfl) (by kernel_rfl) (fun _ _ _ h => h) (Or.inl ⟨by rfl, ?hn129_29⟩) hHeld ?rn129_29
            case hn129_29 =>
              intro wS hSw
              (try dsimp only at hSw)
              go_simp
              try with_reducible rfl
            case rn129_29 =>
            simp only [Act.put, List.setIfInBounds_toArray, List.set_cons_zero, List.set_cons_succ]
            refine wpAnyH_take (i := 30) (oi := { dst := some 127, op := Go.Op.pick (Go.Operand.tmp 116) (Go.Operand.const (Go.Value.bool true)) (Go.Operand.tmp 126), type := 4, pos := "laws.go:333", after := #[{ on := 19, ground := Go.Ground.data }, { on := 29, ground := Go.Ground.data }, { on := 14, ground := Go.Ground.guard }], guard := some (14, true) }) (v := ?vn130_30) rfl (by kernel_rfl) (by kernel_rfl) (by kernel_rfl) (fun _ _ _ h => h) (Or.inl ⟨by rfl, ?hn130_30⟩) hHeld ?rn130_30
            case hn130_30 =>
              intro wS hSw
              (try dsimp only at hSw)
              go_simp
              try with_reducible rfl
            case rn130_30 =>
            simp only [Act.put, List.setIfInBounds_toArray, List.set_cons_zero, List.set_cons_succ]
            refine wpAnyH_take (i := 31) (oi := { dst := some 128, op := Go.Op.pick (Go.Operand.tmp 111) (Go.Operand.tmp 127) (Go.Operand.const (Go.Value.bool false)), type := 4, pos := "laws.go:333", after := #[{ on := 14, ground := Go.Ground.data }, { on := 30, ground := Go.Ground.data }], guard := none }) (v := ?vn131_31) rfl (by kernel_rfl) (by kernel_rfl) (by kernel_rfl) (fun _ _ _ h => h) (Or.inl ⟨by rfl, ?hn131_31⟩) hHeld ?rn131_31
            case hn131_31 =>
              intro wS hSw
              (try dsimp only at hSw)
              go_simp
              try with_reducible rfl
            case rn131_31 =>
            simp only [Act.put, List.setIfInBounds_toArray, List.set_cons_zero, List.set_cons_succ]
            refine wpAnyH_take (i := 32) (oi := { dst := some 2, op := Go.Op.assign (Go.Operand.tmp 128), type := 4, pos := "laws.go:333", after := #[{ on := 31, ground := Go.Ground.data }, { on := 27, ground := Go.Ground.chain }, { on := 0, ground := Go.Ground.phase }, { on := 1, ground := Go.Ground.phase }, { on := 2, ground := Go.Ground.phase }, { on := 3, ground := Go.Ground.phase }, { on := 4, ground := Go.Ground.phase }, { on := 5, ground := Go.Ground.phase }, { on := 6, ground := Go.Ground.phase }, { on := 7, ground := Go.Ground.phase }, { on := 8, ground := Go.Ground.phase }, { on := 9, ground := Go.Ground.phase }, { on := 10, ground := Go.Ground.phase }, { on := 11, ground := Go.Ground.phase }, { on := 12, ground := Go.Ground.phase }, { on := 13, ground := Go.Ground.phase }, { on := 14, ground := Go.Ground.phase }, { on := 15, ground := Go.Ground.phase }, { on := 16, ground := Go.Ground.phase }, { on := 17, ground := Go.Ground.phase }, { on := 18, ground := Go.Ground.phase }, { on := 19, ground := Go.Ground.phase }, { on := 20, ground := Go.Ground.phase }, { on := 21, ground := Go.Ground.phase }, { on := 22, ground := Go.Ground.phase }, { on := 23, ground := Go.Ground.phase }, { on := 24, ground := Go.Ground.phase }, { on := 25, ground := Go.Ground.phase }, { on := 26, ground := Go.Ground.phase }, { on := 27, ground := Go.Ground.phase }, { on := 28, ground := Go.Ground.phase }, { on := 29, ground := Go.Ground.phase }, { on := 30, ground := Go.Ground.phase }, { on := 31, ground := Go.Ground.phase }], guard := none }) (v := ?vn132_32) rfl (by kernel_rfl) (by kernel_rfl) (by kernel_rfl) (fun _ _ _ h => h) (Or.inl ⟨by rfl, ?hn132_32⟩) hHeld ?rn132_32
            case hn132_32 =>
              intro wS hSw
              (try dsimp only at hSw)
              go_simp
              try with_reducible rfl
            case rn132_32 =>
            simp only [Act.put, List.setIfInBounds_toArray, List.set_cons_zero, List.set_cons_succ]
            refine wpAnyH_done (by kernel_rfl) ?_ _
            refine NoPanic.normal ?_
            have HB9 := hide ((unhide HB).trans (hHeld.mono (unhide HB).size))
            clear hHeld
            go_wp2_with fail
            go_ret
            exact ⟨rfl, unhide HB9⟩
        · have g1 : ((P.length : Int) == n) = false := by simpa using hfull
          have hpc : P.length = x.centers.length := by rcases unhide HPN with h | h; exact absurd h hfull; exact h
          have g3 : ((P.length : Int) == (x.centers.length : Int)) = true := by rw [hpc]; simp
          clear hfull hpc HPN
          by_cases hemp : P.length = 0
          · have g2 : ((P.length : Int) == 0) = true := by rw [hemp]; rfl
            clear hemp
            go_wp2_with fail
            clear y0 y1 y2 y3
            refine wp_region_noPanic ?_
            refine wp_region_held_drew (S := fun w' => Below wz.heap.size wz w') (by kernel_rfl) (unhide HBr).drew (fun hHeld => ?_)
            generalize wr.drew = wD at hHeld ⊢
            refine wpAnyH_take (i := 0) (oi := { dst := some 97, op := Go.Op.fieldAddr 32 (Go.Operand.tmp 6) 1, type := 0, pos := "laws.go:333", after := #[], guard := none }) (v := ?vm00_1) rfl (by kernel_rfl) (by kernel_rfl) (by kernel_rfl) (fun _ _ _ h => h) (Or.inl ⟨by rfl, ?hm00_1⟩) hHeld ?rm00_1
            case hm00_1 =>
              intro wS hSw
              (try dsimp only at hSw)
              go_simp
              try with_reducible rfl
            case rm00_1 =>
            simp only [Act.put, List.setIfInBounds_toArray, List.set_cons_zero, List.set_cons_succ]
            refine wpAnyH_take (i := 1) (oi := { dst := some 98, op := Go.Op.load 28 (Go.Operand.tmp 97), type := 28, pos := "laws.go:333", after := #[{ on := 0, ground := Go.Ground.data }], guard := none }) (v := ?vm01_2) rfl (by kernel_rfl) (by kernel_rfl) (by kernel_rfl) (fun _ _ _ h => h) (Or.inl ⟨by rfl, ?hm01_2⟩) hHeld ?rm01_2
            case hm01_2 =>
              intro wS hSw
              obtain ⟨y0, y1, y2, y3⟩ := unhide KEEP _ hSw
              clear hSw
              (try dsimp only at hSw)
              go_simp
              try with_reducible rfl
            case rm01_2 =>
            simp only [Act.put, List.setIfInBounds_toArray, List.set_cons_zero, List.set_cons_succ]
            refine wpAnyH_take (i := 2) (oi := { dst := some 99, op := Go.Op.call { callee := Go.Callee.builtin Go.Builtin.len, args := #[Go.Operand.tmp 98], argTypes := #[28] }, type := 3, pos := "laws.go:333", after := #[{ on := 1, ground := Go.Ground.data }], guard := none }) (v := ?vm02_3) rfl (by kernel_rfl) (by kernel_rfl) (by kernel_rfl) (fun _ _ _ h => h) (Or.inl ⟨by rfl, ?hm02_3⟩) hHeld ?rm02_3
            case hm02_3 =>
              intro wS hSw
              (try dsimp only at hSw)
              go_simp
              try with_reducible rfl
            case rm02_3 =>
            simp only [Act.put, List.setIfInBounds_toArray, List.set_cons_zero, List.set_cons_succ]
            refine wpAnyH_take (i := 3) (oi := { dst := some 100, op := Go.Op.move (Go.Operand.tmp 5), type := 2, pos := "laws.go:333", after := #[], guard := none }) (v := ?vm03_4) rfl (by kernel_rfl) (by kernel_rfl) (by kernel_rfl) (fun _ _ _ h => h) (Or.inl ⟨by rfl, ?hm03_4⟩) hHeld ?rm03_4
            case hm03_4 =>
              intro wS hSw
              (try dsimp only at hSw)
              go_simp
              try with_reducible rfl
            case rm03_4 =>
            simp only [Act.put, List.setIfInBounds_toArray, List.set_cons_zero, List.set_cons_succ]
            refine wpAnyH_take (i := 4) (oi := { dst := some 101, op := Go.Op.binOp Go.BinOp.eql 2 (Go.Operand.tmp 99) (Go.Operand.tmp 100) 2, type := 4, pos := "laws.go:333", after := #[{ on := 2, ground := Go.Ground.data }, { on := 3, ground := Go.Ground.data }], guard := none }) (v := ?vm04_5) rfl (by kernel_rfl) (by kernel_rfl) (by kernel_rfl) (fun _ _ _ h => h) (Or.inl ⟨by rfl, ?hm04_5⟩) hHeld ?rm04_5
            case hm04_5 =>
              intro wS hSw
              (try dsimp only at hSw)
              go_simp
              try with_reducible rfl
            case rm04_5 =>
            simp only [Act.put, List.setIfInBounds_toArray, List.set_cons_zero, List.set_cons_succ]
            refine wpAnyH_take (i := 5) (oi := { dst := some 102, op := Go.Op.move (Go.Operand.tmp 101), type := 4, pos := "laws.go:333", after := #[{ on := 4, ground := Go.Ground.data }], guard := none }) (v := ?vm05_6) rfl (by kernel_rfl) (by kernel_rfl) (by kernel_rfl) (fun _ _ _ h => h) (Or.inl ⟨by rfl, ?hm05_6⟩) hHeld ?rm05_6
            case hm05_6 =>
              intro wS hSw
              (try dsimp only at hSw)
              go_simp
              try with_reducible rfl
            case rm05_6 =>
            simp only [Act.put, List.setIfInBounds_toArray, List.set_cons_zero, List.set_cons_succ]
            refine wpAnyH_take (i := 6) (oi := { dst := some 103, op := Go.Op.fieldAddr 32 (Go.Operand.tmp 6) 1, type := 0, pos := "laws.go:333", after := #[{ on := 5, ground := Go.Ground.guard }], guard := some (5, false) }) (v := ?vm06_7) rfl (by kernel_rfl) (by kernel_rfl) (by kernel_rfl) (fun _ _ _ h => h) (Or.inl ⟨by rfl, ?hm06_7⟩) hHeld ?rm06_7
            case hm06_7 =>
              intro wS hSw
              (try dsimp only at hSw)
              go_simp
              try with_reducible rfl
            case rm06_7 =>
            simp only [Act.put, List.setIfInBounds_toArray, List.set_cons_zero, List.set_cons_succ]
            refine wpAnyH_take (i := 7) (oi := { dst := some 104, op := Go.Op.load 28 (Go.Operand.tmp 103), type := 28, pos := "laws.go:333", after := #[{ on := 6, ground := Go.Ground.data }, { on := 5, ground := Go.Ground.guard }], guard := some (5, false) }) (v := ?vm07_8) rfl (by kernel_rfl) (by kernel_rfl) (by kernel_rfl) (fun _ _ _ h => h) (Or.inl ⟨by rfl, ?hm07_8⟩) hHeld ?rm07_8
            case hm07_8 =>
              intro wS hSw
              obtain ⟨y0, y1, y2, y3⟩ := unhide KEEP _ hSw
              clear hSw
              (try dsimp only at hSw)
              go_simp
              try with_reducible rfl
            case rm07_8 =>
            simp only [Act.put, List.setIfInBounds_toArray, List.set_cons_zero, List.set_cons_succ]
            refine wpAnyH_take (i := 8) (oi := { dst := some 105, op := Go.Op.call { callee := Go.Callee.builtin Go.Builtin.len, args := #[Go.Operand.tmp 104], argTypes := #[28] }, type := 3, pos := "laws.go:333", after := #[{ on := 7, ground := Go.Ground.data }, { on := 5, ground := Go.Ground.guard }], guard := some (5, false) }) (v := ?vm08_9) rfl (by kernel_rfl) (by kernel_rfl) (by kernel_rfl) (fun _ _ _ h => h) (Or.inl ⟨by rfl, ?hm08_9⟩) hHeld ?rm08_9
            case hm08_9 =>
              intro wS hSw
              (try dsimp only at hSw)
              go_simp
              try with_reducible rfl
            case rm08_9 =>
            simp only [Act.put, List.setIfInBounds_toArray, List.set_cons_zero, List.set_cons_succ]
            refine wpAnyH_take (i := 9) (oi := { dst := some 106, op := Go.Op.fieldAddr 27 (Go.Operand.tmp 3) 0, type := 0, pos := "laws.go:333", after := #[{ on := 5, ground := Go.Ground.guard }], guard := some (5, false) }) (v := ?vm09_10) rfl (by kernel_rfl) (by kernel_rfl) (by kernel_rfl) (fun _ _ _ h => h) (Or.inl ⟨by rfl, ?hm09_10⟩) hHeld ?rm09_10
            case hm09_10 =>
              intro wS hSw
              (try dsimp only at hSw)
              go_simp
              try with_reducible rfl
            case rm09_10 =>
            simp only [Act.put, List.setIfInBounds_toArray, List.set_cons_zero, List.set_cons_succ]
            refine wpAnyH_take (i := 10) (oi := { dst := some 107, op := Go.Op.load 24 (Go.Operand.tmp 106), type := 24, pos := "laws.go:333", after := #[{ on := 9, ground := Go.Ground.data }, { on := 5, ground := Go.Ground.guard }], guard := some (5, false) }) (v := ?vm010_11) rfl (by kernel_rfl) (by kernel_rfl) (by kernel_rfl) (fun _ _ _ h => h) (Or.inl ⟨by rfl, ?hm010_11⟩) hHeld ?rm010_11
            case hm010_11 =>
              intro wS hSw
              obtain ⟨y0, y1, y2, y3⟩ := unhide KEEP _ hSw
              clear hSw
              (try dsimp only at hSw)
              go_simp
              try with_reducible rfl
            case rm010_11 =>
            simp only [Act.put, List.setIfInBounds_toArray, List.set_cons_zero, List.set_cons_succ]
            refine wpAnyH_take (i := 11) (oi := { dst := some 108, op := Go.Op.call { callee := Go.Callee.builtin Go.Builtin.len, args := #[Go.Operand.tmp 107], argTypes := #[24] }, type := 3, pos := "laws.go:333", after := #[{ on := 10, ground := Go.Ground.data }, { on := 5, ground := Go.Ground.guard }], guard := some (5, false) }) (v := ?vm011_12) rfl (by kernel_rfl) (by kernel_rfl) (by kernel_rfl) (fun _ _ _ h => h) (Or.inl ⟨by rfl, ?hm011_12⟩) hHeld ?rm011_12
            case hm011_12 =>
              intro wS hSw
              (try dsimp only at hSw)
              go_simp
              try with_reducible rfl
            case rm011_12 =>
            simp only [Act.put, List.setIfInBounds_toArray, List.set_cons_zero, List.set_cons_succ]
            refine wpAnyH_take (i := 12) (oi := { dst := some 109, op := Go.Op.binOp Go.BinOp.eql 3 (Go.Operand.tmp 105) (Go.Operand.tmp 108) 3, type := 4, pos := "laws.go:333", after := #[{ on := 8, ground := Go.Ground.data }, { on := 11, ground := Go.Ground.data }, { on := 5, ground := Go.Ground.guard }], guard := some (5, false) }) (v := ?vm012_13) rfl (by kernel_rfl) (by kernel_rfl) (by kernel_rfl) (fun _ _ _ h => h) (Or.inl ⟨by rfl, ?hm012_13⟩) hHeld ?rm012_13
            case hm012_13 =>
              intro wS hSw
              (try dsimp only at hSw)
              go_simp
              try with_reducible rfl
            case rm012_13 =>
            simp only [Act.put, List.setIfInBounds_toArray, List.set_cons_zero, List.set_cons_succ]
            refine wpAnyH_take (i := 13) (oi := { dst := some 110, op := Go.Op.pick (Go.Operand.tmp 102) (Go.Operand.const (Go.Value.bool true)) (Go.Operand.tmp 109), type := 4, pos := "laws.go:333", after := #[{ on := 5, ground := Go.Ground.data }, { on := 12, ground := Go.Ground.data }], guard := none }) (v := ?vm013_14) rfl (by kernel_rfl) (by kernel_rfl) (by kernel_rfl) (fun _ _ _ h => h) (Or.inl ⟨by rfl, ?hm013_14⟩) hHeld ?rm013_14
            case hm013_14 =>
              intro wS hSw
              (try dsimp only at hSw)
              go_simp
              try with_reducible rfl
            case rm013_14 =>
            simp only [Act.put, List.setIfInBounds_toArray, List.set_cons_zero, List.set_cons_succ]
            refine wpAnyH_take (i := 14) (oi := { dst := some 111, op := Go.Op.move (Go.Operand.tmp 110), type := 4, pos := "laws.go:333", after := #[{ on := 13, ground := Go.Ground.data }, { on := 5, ground := Go.Ground.chain }], guard := none }) (v := ?vm014_15) rfl (by kernel_rfl) (by kernel_rfl) (by kernel_rfl) (fun _ _ _ h => h) (Or.inl ⟨by rfl, ?hm014_15⟩) hHeld ?rm014_15
            case hm014_15 =>
              intro wS hSw
              (try dsimp only at hSw)
              go_simp
              try with_reducible rfl
            case rm014_15 =>
            simp only [Act.put, List.setIfInBounds_toArray, List.set_cons_zero, List.set_cons_succ]
            refine wpAnyH_take (i := 15) (oi := { dst := some 112, op := Go.Op.fieldAddr 32 (Go.Operand.tmp 6) 1, type := 0, pos := "laws.go:333", after := #[{ on := 14, ground := Go.Ground.guard }], guard := some (14, true) }) (v := ?vm015_16) rfl (by kernel_rfl) (by kernel_rfl) (by kernel_rfl) (fun _ _ _ h => h) (Or.inl ⟨by rfl, ?hm015_16⟩) hHeld ?rm015_16
            case hm015_16 =>
              intro wS hSw
              (try dsimp only at hSw)
              go_simp
              try with_reducible rfl
            case rm015_16 =>
            simp only [Act.put, List.setIfInBounds_toArray, List.set_cons_zero, List.set_cons_succ]
            refine wpAnyH_take (i := 16) (oi := { dst := some 113, op := Go.Op.load 28 (Go.Operand.tmp 112), type := 28, pos := "laws.go:333", after := #[{ on := 15, ground := Go.Ground.data }, { on := 14, ground := Go.Ground.guard }], guard := some (14, true) }) (v := ?vm016_17) rfl (by kernel_rfl) (by kernel_rfl) (by kernel_rfl) (fun _ _ _ h => h) (Or.inl ⟨by rfl, ?hm016_17⟩) hHeld ?rm016_17
            case hm016_17 =>
              intro wS hSw
              obtain ⟨y0, y1, y2, y3⟩ := unhide KEEP _ hSw
              clear hSw
              (try dsimp only at hSw)
              go_simp
              try with_reducible rfl
            case rm016_17 =>
            simp only [Act.put, List.setIfInBounds_toArray, List.set_cons_zero, List.set_cons_succ]
            refine wpAnyH_take (i := 17) (oi := { dst := some 114, op := Go.Op.call { callee := Go.Callee.builtin Go.Builtin.len, args := #[Go.Operand.tmp 113], argTypes := #[28] }, type := 3, pos := "laws.go:333", after := #[{ on := 16, ground := Go.Ground.data }, { on := 14, ground := Go.Ground.guard }], guard := some (14, true) }) (v := ?vm017_18) rfl (by kernel_rfl) (by kernel_rfl) (by kernel_rfl) (fun _ _ _ h => h) (Or.inl ⟨by rfl, ?hm017_18⟩) hHeld ?rm017_18
            case hm017_18 =>
              intro wS hSw
              (try dsimp only at hSw)
              go_simp
              try with_reducible rfl
            case rm017_18 =>
            simp only [Act.put, List.setIfInBounds_toArray, List.set_cons_zero, List.set_cons_succ]
            refine wpAnyH_take (i := 18) (oi := { dst := some 115, op := Go.Op.binOp Go.BinOp.eql 3 (Go.Operand.tmp 114) (Go.Operand.const (Go.Value.int Go.IntKind.i64 0)) 3, type := 4, pos := "laws.go:333", after := #[{ on := 17, ground := Go.Ground.data }, { on := 14, ground := Go.Ground.guard }], guard := some (14, true) }) (v := ?vm018_19) rfl (by kernel_rfl) (by kernel_rfl) (by kernel_rfl) (fun _ _ _ h => h) (Or.inl ⟨by rfl, ?hm018_19⟩) hHeld ?rm018_19
            case hm018_19 =>
              intro wS hSw
              (try dsimp only at hSw)
              go_simp
              try with_reducible rfl
            case rm018_19 =>
            simp only [Act.put, List.setIfInBounds_toArray, List.set_cons_zero, List.set_cons_succ]
            refine wpAnyH_take (i := 19) (oi := { dst := some 116, op := Go.Op.move (Go.Operand.tmp 115), type := 4, pos := "laws.go:333", after := #[{ on := 18, ground := Go.Ground.data }, { on := 14, ground := Go.Ground.chain }, { on := 14, ground := Go.Ground.guard }], guard := some (14, true) }) (v := ?vm019_20) rfl (by kernel_rfl) (by kernel_rfl) (by kernel_rfl) (fun _ _ _ h => h) (Or.inl ⟨by rfl, ?hm019_20⟩) hHeld ?rm019_20
            case hm019_20 =>
              intro wS hSw
              (try dsimp only at hSw)
              go_simp
              try with_reducible rfl
            case rm019_20 =>
            simp only [Act.put, List.setIfInBounds_toArray, List.set_cons_zero, List.set_cons_succ]
            refine wpAnyH_take (i := 20) (oi := { dst := some 117, op := Go.Op.fieldAddr 32 (Go.Operand.tmp 6) 1, type := 0, pos := "laws.go:333", after := #[{ on := 19, ground := Go.Ground.guard }], guard := some (19, false) }) (v := undef) rfl (by kernel_rfl) (by kernel_rfl) (by kernel_rfl) (fun _ _ _ h => h) (Or.inr ⟨by rfl, rfl⟩) hHeld ?_
            simp only [Act.put, List.setIfInBounds_toArray, List.set_cons_zero, List.set_cons_succ]
            refine wpAnyH_take (i := 21) (oi := { dst := some 118, op := Go.Op.load 28 (Go.Operand.tmp 117), type := 28, pos := "laws.go:333", after := #[{ on := 20, ground := Go.Ground.data }, { on := 19, ground := Go.Ground.guard }], guard := some (19, false) }) (v := undef) rfl (by kernel_rfl) (by kernel_rfl) (by kernel_rfl) (fun _ _ _ h => h) (Or.inr ⟨by rfl, rfl⟩) hHeld ?_
            simp only [Act.put, List.setIfInBounds_toArray, List.set_cons_zero, List.set_cons_succ]
            refine wpAnyH_take (i := 22) (oi := { dst := some 119, op := Go.Op.indexAddr 28 (Go.Operand.tmp 118) (Go.Operand.const (Go.Value.int Go.IntKind.i64 0)), type := 0, pos := "laws.go:333", after := #[{ on := 21, ground := Go.Ground.data }, { on := 19, ground := Go.Ground.guard }], guard := some (19, false) }) (v := undef) rfl (by kernel_rfl) (by kernel_rfl) (by kernel_rfl) (fun _ _ _ h => h) (Or.inr ⟨by rfl, rfl⟩) hHeld ?_
            simp only [Act.put, List.setIfInBounds_toArray, List.set_cons_zero, List.set_cons_succ]
            refine wpAnyH_take (i := 23) (oi := { dst := some 120, op := Go.Op.load 2 (Go.Operand.tmp 119), type := 2, pos := "laws.go:333", after := #[{ on := 22, ground := Go.Ground.data }, { on := 19, ground := Go.Ground.guard }], guard := some (19, false) }) (v := undef) rfl (by kernel_rfl) (by kernel_rfl) (by kernel_rfl) (fun _ _ _ h => h) (Or.inr ⟨by rfl, rfl⟩) hHeld ?_
            simp only [Act.put, List.setIfInBounds_toArray, List.set_cons_zero, List.set_cons_succ]
            refine wpAnyH_take (i := 24) (oi := { dst := some 121, op := Go.Op.fieldAddr 27 (Go.Operand.tmp 3) 0, type := 0, pos := "laws.go:333", after := #[{ on := 19, ground := Go.Ground.guard }], guard := some (19, false) }) (v := undef) rfl (by kernel_rfl) (by kernel_rfl) (by kernel_rfl) (fun _ _ _ h => h) (Or.inr ⟨by rfl, rfl⟩) hHeld ?_
            simp only [Act.put, List.setIfInBounds_toArray, List.set_cons_zero, List.set_cons_succ]
            refine wpAnyH_take (i := 25) (oi := { dst := some 122, op := Go.Op.load 24 (Go.Operand.tmp 121), type := 24, pos := "laws.go:333", after := #[{ on := 24, ground := Go.Ground.data }, { on := 19, ground := Go.Ground.guard }], guard := some (19, false) }) (v := undef) rfl (by kernel_rfl) (by kernel_rfl) (by kernel_rfl) (fun _ _ _ h => h) (Or.inr ⟨by rfl, rfl⟩) hHeld ?_
            simp only [Act.put, List.setIfInBounds_toArray, List.set_cons_zero, List.set_cons_succ]
            refine wpAnyH_take (i := 26) (oi := { dst := some 123, op := Go.Op.move (Go.Operand.tmp 4), type := 28, pos := "laws.go:333", after := #[{ on := 19, ground := Go.Ground.guard }], guard := some (19, false) }) (v := undef) rfl (by kernel_rfl) (by kernel_rfl) (by kernel_rfl) (fun _ _ _ h => h) (Or.inr ⟨by rfl, rfl⟩) hHeld ?_
            simp only [Act.put, List.setIfInBounds_toArray, List.set_cons_zero, List.set_cons_succ]
            refine wpAnyH_take (i := 27) (oi := { dst := some 124, op := Go.Op.call { callee := Go.Callee.value (Go.Operand.func 16), args := #[Go.Operand.tmp 122, Go.Operand.tmp 123], argTypes := #[24, 28] }, type := 43, pos := "laws.go:333", after := #[{ on := 25, ground := Go.Ground.data }, { on := 26, ground := Go.Ground.data }, { on := 19, ground := Go.Ground.chain }, { on := 19, ground := Go.Ground.guard }], guard := some (19, false) }) (v := undef) rfl (by kernel_rfl) (by kernel_rfl) (by kernel_rfl) (fun _ _ _ h => h) (Or.inr ⟨by rfl, rfl⟩) hHeld ?_
            simp only [Act.put, List.setIfInBounds_toArray, List.set_cons_zero, List.set_cons_succ]
            refine wpAnyH_take (i := 28) (oi := { dst := some 125, op := Go.Op.field 43 (Go.Operand.tmp 124) 1, type := 2, pos := "laws.go:333", after := #[{ on := 27, ground := Go.Ground.data }, { on := 19, ground := Go.Ground.guard }], guard := some (19, false) }) (v := undef) rfl (by kernel_rfl) (by kernel_rfl) (by kernel_rfl) (fun _ _ _ h => h) (Or.inr ⟨by rfl, rfl⟩) hHeld ?_
            simp only [Act.put, List.setIfInBounds_toArray, List.set_cons_zero, List.set_cons_succ]
            refine wpAnyH_take (i := 29) (oi := { dst := some 126, op := Go.Op.binOp Go.BinOp.eql 2 (Go.Operand.tmp 120) (Go.Operand.tmp 125) 2, type := 4, pos := "laws.go:333", after := #[{ on := 23, ground := Go.Ground.data }, { on := 28, ground := Go.Ground.data }, { on := 19, ground := Go.Ground.guard }], guard := some (19, false) }) (v := undef) rfl (by kernel_rfl) (by kernel_rfl) (by kernel_rfl) (fun _ _ _ h => h) (Or.inr ⟨by rfl, rfl⟩) hHeld ?_
            simp only [Act.put, List.setIfInBounds_toArray, List.set_cons_zero, List.set_cons_succ]
            refine wpAnyH_take (i := 30) (oi := { dst := some 127, op := Go.Op.pick (Go.Operand.tmp 116) (Go.Operand.const (Go.Value.bool true)) (Go.Operand.tmp 126), type := 4, pos := "laws.go:333", after := #[{ on := 19, ground := Go.Ground.data }, { on := 29, ground := Go.Ground.data }, { on := 14, ground := Go.Ground.guard }], guard := some (14, true) }) (v := ?vm030_31) rfl (by kernel_rfl) (by kernel_rfl) (by kernel_rfl) (fun _ _ _ h => h) (Or.inl ⟨by rfl, ?hm030_31⟩) hHeld ?rm030_31
            case hm030_31 =>
              intro wS hSw
              (try dsimp only at hSw)
              go_simp
              try with_reducible rfl
            case rm030_31 =>
            simp only [Act.put, List.setIfInBounds_toArray, List.set_cons_zero, List.set_cons_succ]
            refine wpAnyH_take (i := 31) (oi := { dst := some 128, op := Go.Op.pick (Go.Operand.tmp 111) (Go.Operand.tmp 127) (Go.Operand.const (Go.Value.bool false)), type := 4, pos := "laws.go:333", after := #[{ on := 14, ground := Go.Ground.data }, { on := 30, ground := Go.Ground.data }], guard := none }) (v := ?vm031_32) rfl (by kernel_rfl) (by kernel_rfl) (by kernel_rfl) (fun _ _ _ h => h) (Or.inl ⟨by rfl, ?hm031_32⟩) hHeld ?rm031_32
            case hm031_32 =>
              intro wS hSw
              (try dsimp only at hSw)
              go_simp
              try with_reducible rfl
            case rm031_32 =>
            simp only [Act.put, List.setIfInBounds_toArray, List.set_cons_zero, List.set_cons_succ]
            refine wpAnyH_take (i := 32) (oi := { dst := some 2, op := Go.Op.assign (Go.Operand.tmp 128), type := 4, pos := "laws.go:333", after := #[{ on := 31, ground := Go.Ground.data }, { on := 27, ground := Go.Ground.chain }, { on := 0, ground := Go.Ground.phase }, { on := 1, ground := Go.Ground.phase }, { on := 2, ground := Go.Ground.phase }, { on := 3, ground := Go.Ground.phase }, { on := 4, ground := Go.Ground.phase }, { on := 5, ground := Go.Ground.phase }, { on := 6, ground := Go.Ground.phase }, { on := 7, ground := Go.Ground.phase }, { on := 8, ground := Go.Ground.phase }, { on := 9, ground := Go.Ground.phase }, { on := 10, ground := Go.Ground.phase }, { on := 11, ground := Go.Ground.phase }, { on := 12, ground := Go.Ground.phase }, { on := 13, ground := Go.Ground.phase }, { on := 14, ground := Go.Ground.phase }, { on := 15, ground := Go.Ground.phase }, { on := 16, ground := Go.Ground.phase }, { on := 17, ground := Go.Ground.phase }, { on := 18, ground := Go.Ground.phase }, { on := 19, ground := Go.Ground.phase }, { on := 20, ground := Go.Ground.phase }, { on := 21, ground := Go.Ground.phase }, { on := 22, ground := Go.Ground.phase }, { on := 23, ground := Go.Ground.phase }, { on := 24, ground := Go.Ground.phase }, { on := 25, ground := Go.Ground.phase }, { on := 26, ground := Go.Ground.phase }, { on := 27, ground := Go.Ground.phase }, { on := 28, ground := Go.Ground.phase }, { on := 29, ground := Go.Ground.phase }, { on := 30, ground := Go.Ground.phase }, { on := 31, ground := Go.Ground.phase }], guard := none }) (v := ?vm032_33) rfl (by kernel_rfl) (by kernel_rfl) (by kernel_rfl) (fun _ _ _ h => h) (Or.inl ⟨by rfl, ?hm032_33⟩) hHeld ?rm032_33
            case hm032_33 =>
              intro wS hSw
              (try dsimp only at hSw)
              go_simp
              try with_reducible rfl
            case rm032_33 =>
            simp only [Act.put, List.setIfInBounds_toArray, List.set_cons_zero, List.set_cons_succ]
            refine wpAnyH_done (by kernel_rfl) ?_ _
            refine NoPanic.normal ?_
            have HB9 := hide ((unhide HB).trans (hHeld.mono (unhide HB).size))
            clear hHeld
            go_wp2_with fail
            go_ret
            exact ⟨rfl, unhide HB9⟩
          · have g2 : ((P.length : Int) == 0) = false := by simpa using hemp
            obtain ⟨b1, o1, rfl, hbl1⟩ := Lay.sl_addr (unhide HR2) (by omega)
            have hp0 := unhide HP0 (by omega)
            have p0 : wz.cell? ⟨b1, o1, none⟩ = some (.int .i64 ((nr : Nat) : Int)) := by
              obtain ⟨aa, cc, ee, -, hcells⟩ := Lay.ints_reads (unhide HR2)
              obtain ⟨bb, oo, e9, hc1⟩ := hcells (by omega)
              simp only [Value.slice.injEq] at ee
              obtain ⟨rfl, -, -⟩ := ee
              simp only [Option.some.injEq, Addr.mk.injEq, and_true] at e9
              obtain ⟨rfl, rfl⟩ := e9
              have := hc1 0 (by omega)
              rw [Nat.add_zero] at this
              rw [this, ← hp0]
              simp [List.getD, show 0 < P.length by omega]
            have g4 : (((nr : Nat) : Int) == ((nr : Nat) : Int)) = true := by simp
            have hlp : 0 < P.length := by omega
            clear hp0 hemp
            go_wp2_with fail
            clear y0 y1 y2 y3
            refine wp_region_noPanic ?_
            refine wp_region_held_drew (S := fun w' => Below wz.heap.size wz w') (by kernel_rfl) (unhide HBr).drew (fun hHeld => ?_)
            generalize wr.drew = wD at hHeld ⊢
            refine wpAnyH_take (i := 0) (oi := { dst := some 97, op := Go.Op.fieldAddr 32 (Go.Operand.tmp 6) 1, type := 0, pos := "laws.go:333", after := #[], guard := none }) (v := ?vn00_1) rfl (by kernel_rfl) (by kernel_rfl) (by kernel_rfl) (fun _ _ _ h => h) (Or.inl ⟨by rfl, ?hn00_1⟩) hHeld ?rn00_1
            case hn00_1 =>
              intro wS hSw
              (try dsimp only at hSw)
              go_simp
              try with_reducible rfl
            case rn00_1 =>
            simp only [Act.put, List.setIfInBounds_toArray, List.set_cons_zero, List.set_cons_succ]
            refine wpAnyH_take (i := 1) (oi := { dst := some 98, op := Go.Op.load 28 (Go.Operand.tmp 97), type := 28, pos := "laws.go:333", after := #[{ on := 0, ground := Go.Ground.data }], guard := none }) (v := ?vn01_2) rfl (by kernel_rfl) (by kernel_rfl) (by kernel_rfl) (fun _ _ _ h => h) (Or.inl ⟨by rfl, ?hn01_2⟩) hHeld ?rn01_2
            case hn01_2 =>
              intro wS hSw
              obtain ⟨y0, y1, y2, y3⟩ := unhide KEEP _ hSw
              clear hSw
              (try dsimp only at hSw)
              go_simp
              try with_reducible rfl
            case rn01_2 =>
            simp only [Act.put, List.setIfInBounds_toArray, List.set_cons_zero, List.set_cons_succ]
            refine wpAnyH_take (i := 2) (oi := { dst := some 99, op := Go.Op.call { callee := Go.Callee.builtin Go.Builtin.len, args := #[Go.Operand.tmp 98], argTypes := #[28] }, type := 3, pos := "laws.go:333", after := #[{ on := 1, ground := Go.Ground.data }], guard := none }) (v := ?vn02_3) rfl (by kernel_rfl) (by kernel_rfl) (by kernel_rfl) (fun _ _ _ h => h) (Or.inl ⟨by rfl, ?hn02_3⟩) hHeld ?rn02_3
            case hn02_3 =>
              intro wS hSw
              (try dsimp only at hSw)
              go_simp
              try with_reducible rfl
            case rn02_3 =>
            simp only [Act.put, List.setIfInBounds_toArray, List.set_cons_zero, List.set_cons_succ]
            refine wpAnyH_take (i := 3) (oi := { dst := some 100, op := Go.Op.move (Go.Operand.tmp 5), type := 2, pos := "laws.go:333", after := #[], guard := none }) (v := ?vn03_4) rfl (by kernel_rfl) (by kernel_rfl) (by kernel_rfl) (fun _ _ _ h => h) (Or.inl ⟨by rfl, ?hn03_4⟩) hHeld ?rn03_4
            case hn03_4 =>
              intro wS hSw
              (try dsimp only at hSw)
              go_simp
              try with_reducible rfl
            case rn03_4 =>
            simp only [Act.put, List.setIfInBounds_toArray, List.set_cons_zero, List.set_cons_succ]
            refine wpAnyH_take (i := 4) (oi := { dst := some 101, op := Go.Op.binOp Go.BinOp.eql 2 (Go.Operand.tmp 99) (Go.Operand.tmp 100) 2, type := 4, pos := "laws.go:333", after := #[{ on := 2, ground := Go.Ground.data }, { on := 3, ground := Go.Ground.data }], guard := none }) (v := ?vn04_5) rfl (by kernel_rfl) (by kernel_rfl) (by kernel_rfl) (fun _ _ _ h => h) (Or.inl ⟨by rfl, ?hn04_5⟩) hHeld ?rn04_5
            case hn04_5 =>
              intro wS hSw
              (try dsimp only at hSw)
              go_simp
              try with_reducible rfl
            case rn04_5 =>
            simp only [Act.put, List.setIfInBounds_toArray, List.set_cons_zero, List.set_cons_succ]
            refine wpAnyH_take (i := 5) (oi := { dst := some 102, op := Go.Op.move (Go.Operand.tmp 101), type := 4, pos := "laws.go:333", after := #[{ on := 4, ground := Go.Ground.data }], guard := none }) (v := ?vn05_6) rfl (by kernel_rfl) (by kernel_rfl) (by kernel_rfl) (fun _ _ _ h => h) (Or.inl ⟨by rfl, ?hn05_6⟩) hHeld ?rn05_6
            case hn05_6 =>
              intro wS hSw
              (try dsimp only at hSw)
              go_simp
              try with_reducible rfl
            case rn05_6 =>
            simp only [Act.put, List.setIfInBounds_toArray, List.set_cons_zero, List.set_cons_succ]
            refine wpAnyH_take (i := 6) (oi := { dst := some 103, op := Go.Op.fieldAddr 32 (Go.Operand.tmp 6) 1, type := 0, pos := "laws.go:333", after := #[{ on := 5, ground := Go.Ground.guard }], guard := some (5, false) }) (v := ?vn06_7) rfl (by kernel_rfl) (by kernel_rfl) (by kernel_rfl) (fun _ _ _ h => h) (Or.inl ⟨by rfl, ?hn06_7⟩) hHeld ?rn06_7
            case hn06_7 =>
              intro wS hSw
              (try dsimp only at hSw)
              go_simp
              try with_reducible rfl
            case rn06_7 =>
            simp only [Act.put, List.setIfInBounds_toArray, List.set_cons_zero, List.set_cons_succ]
            refine wpAnyH_take (i := 7) (oi := { dst := some 104, op := Go.Op.load 28 (Go.Operand.tmp 103), type := 28, pos := "laws.go:333", after := #[{ on := 6, ground := Go.Ground.data }, { on := 5, ground := Go.Ground.guard }], guard := some (5, false) }) (v := ?vn07_8) rfl (by kernel_rfl) (by kernel_rfl) (by kernel_rfl) (fun _ _ _ h => h) (Or.inl ⟨by rfl, ?hn07_8⟩) hHeld ?rn07_8
            case hn07_8 =>
              intro wS hSw
              obtain ⟨y0, y1, y2, y3⟩ := unhide KEEP _ hSw
              clear hSw
              (try dsimp only at hSw)
              go_simp
              try with_reducible rfl
            case rn07_8 =>
            simp only [Act.put, List.setIfInBounds_toArray, List.set_cons_zero, List.set_cons_succ]
            refine wpAnyH_take (i := 8) (oi := { dst := some 105, op := Go.Op.call { callee := Go.Callee.builtin Go.Builtin.len, args := #[Go.Operand.tmp 104], argTypes := #[28] }, type := 3, pos := "laws.go:333", after := #[{ on := 7, ground := Go.Ground.data }, { on := 5, ground := Go.Ground.guard }], guard := some (5, false) }) (v := ?vn08_9) rfl (by kernel_rfl) (by kernel_rfl) (by kernel_rfl) (fun _ _ _ h => h) (Or.inl ⟨by rfl, ?hn08_9⟩) hHeld ?rn08_9
            case hn08_9 =>
              intro wS hSw
              (try dsimp only at hSw)
              go_simp
              try with_reducible rfl
            case rn08_9 =>
            simp only [Act.put, List.setIfInBounds_toArray, List.set_cons_zero, List.set_cons_succ]
            refine wpAnyH_take (i := 9) (oi := { dst := some 106, op := Go.Op.fieldAddr 27 (Go.Operand.tmp 3) 0, type := 0, pos := "laws.go:333", after := #[{ on := 5, ground := Go.Ground.guard }], guard := some (5, false) }) (v := ?vn09_10) rfl (by kernel_rfl) (by kernel_rfl) (by kernel_rfl) (fun _ _ _ h => h) (Or.inl ⟨by rfl, ?hn09_10⟩) hHeld ?rn09_10
            case hn09_10 =>
              intro wS hSw
              (try dsimp only at hSw)
              go_simp
              try with_reducible rfl
            case rn09_10 =>
            simp only [Act.put, List.setIfInBounds_toArray, List.set_cons_zero, List.set_cons_succ]
            refine wpAnyH_take (i := 10) (oi := { dst := some 107, op := Go.Op.load 24 (Go.Operand.tmp 106), type := 24, pos := "laws.go:333", after := #[{ on := 9, ground := Go.Ground.data }, { on := 5, ground := Go.Ground.guard }], guard := some (5, false) }) (v := ?vn010_11) rfl (by kernel_rfl) (by kernel_rfl) (by kernel_rfl) (fun _ _ _ h => h) (Or.inl ⟨by rfl, ?hn010_11⟩) hHeld ?rn010_11
            case hn010_11 =>
              intro wS hSw
              obtain ⟨y0, y1, y2, y3⟩ := unhide KEEP _ hSw
              clear hSw
              (try dsimp only at hSw)
              go_simp
              try with_reducible rfl
            case rn010_11 =>
            simp only [Act.put, List.setIfInBounds_toArray, List.set_cons_zero, List.set_cons_succ]
            refine wpAnyH_take (i := 11) (oi := { dst := some 108, op := Go.Op.call { callee := Go.Callee.builtin Go.Builtin.len, args := #[Go.Operand.tmp 107], argTypes := #[24] }, type := 3, pos := "laws.go:333", after := #[{ on := 10, ground := Go.Ground.data }, { on := 5, ground := Go.Ground.guard }], guard := some (5, false) }) (v := ?vn011_12) rfl (by kernel_rfl) (by kernel_rfl) (by kernel_rfl) (fun _ _ _ h => h) (Or.inl ⟨by rfl, ?hn011_12⟩) hHeld ?rn011_12
            case hn011_12 =>
              intro wS hSw
              (try dsimp only at hSw)
              go_simp
              try with_reducible rfl
            case rn011_12 =>
            simp only [Act.put, List.setIfInBounds_toArray, List.set_cons_zero, List.set_cons_succ]
            refine wpAnyH_take (i := 12) (oi := { dst := some 109, op := Go.Op.binOp Go.BinOp.eql 3 (Go.Operand.tmp 105) (Go.Operand.tmp 108) 3, type := 4, pos := "laws.go:333", after := #[{ on := 8, ground := Go.Ground.data }, { on := 11, ground := Go.Ground.data }, { on := 5, ground := Go.Ground.guard }], guard := some (5, false) }) (v := ?vn012_13) rfl (by kernel_rfl) (by kernel_rfl) (by kernel_rfl) (fun _ _ _ h => h) (Or.inl ⟨by rfl, ?hn012_13⟩) hHeld ?rn012_13
            case hn012_13 =>
              intro wS hSw
              (try dsimp only at hSw)
              go_simp
              try with_reducible rfl
            case rn012_13 =>
            simp only [Act.put, List.setIfInBounds_toArray, List.set_cons_zero, List.set_cons_succ]
            refine wpAnyH_take (i := 13) (oi := { dst := some 110, op := Go.Op.pick (Go.Operand.tmp 102) (Go.Operand.const (Go.Value.bool true)) (Go.Operand.tmp 109), type := 4, pos := "laws.go:333", after := #[{ on := 5, ground := Go.Ground.data }, { on := 12, ground := Go.Ground.data }], guard := none }) (v := ?vn013_14) rfl (by kernel_rfl) (by kernel_rfl) (by kernel_rfl) (fun _ _ _ h => h) (Or.inl ⟨by rfl, ?hn013_14⟩) hHeld ?rn013_14
            case hn013_14 =>
              intro wS hSw
              (try dsimp only at hSw)
              go_simp
              try with_reducible rfl
            case rn013_14 =>
            simp only [Act.put, List.setIfInBounds_toArray, List.set_cons_zero, List.set_cons_succ]
            refine wpAnyH_take (i := 14) (oi := { dst := some 111, op := Go.Op.move (Go.Operand.tmp 110), type := 4, pos := "laws.go:333", after := #[{ on := 13, ground := Go.Ground.data }, { on := 5, ground := Go.Ground.chain }], guard := none }) (v := ?vn014_15) rfl (by kernel_rfl) (by kernel_rfl) (by kernel_rfl) (fun _ _ _ h => h) (Or.inl ⟨by rfl, ?hn014_15⟩) hHeld ?rn014_15
            case hn014_15 =>
              intro wS hSw
              (try dsimp only at hSw)
              go_simp
              try with_reducible rfl
            case rn014_15 =>
            simp only [Act.put, List.setIfInBounds_toArray, List.set_cons_zero, List.set_cons_succ]
            refine wpAnyH_take (i := 15) (oi := { dst := some 112, op := Go.Op.fieldAddr 32 (Go.Operand.tmp 6) 1, type := 0, pos := "laws.go:333", after := #[{ on := 14, ground := Go.Ground.guard }], guard := some (14, true) }) (v := ?vn015_16) rfl (by kernel_rfl) (by kernel_rfl) (by kernel_rfl) (fun _ _ _ h => h) (Or.inl ⟨by rfl, ?hn015_16⟩) hHeld ?rn015_16
            case hn015_16 =>
              intro wS hSw
              (try dsimp only at hSw)
              go_simp
              try with_reducible rfl
            case rn015_16 =>
            simp only [Act.put, List.setIfInBounds_toArray, List.set_cons_zero, List.set_cons_succ]
            refine wpAnyH_take (i := 16) (oi := { dst := some 113, op := Go.Op.load 28 (Go.Operand.tmp 112), type := 28, pos := "laws.go:333", after := #[{ on := 15, ground := Go.Ground.data }, { on := 14, ground := Go.Ground.guard }], guard := some (14, true) }) (v := ?vn016_17) rfl (by kernel_rfl) (by kernel_rfl) (by kernel_rfl) (fun _ _ _ h => h) (Or.inl ⟨by rfl, ?hn016_17⟩) hHeld ?rn016_17
            case hn016_17 =>
              intro wS hSw
              obtain ⟨y0, y1, y2, y3⟩ := unhide KEEP _ hSw
              clear hSw
              (try dsimp only at hSw)
              go_simp
              try with_reducible rfl
            case rn016_17 =>
            simp only [Act.put, List.setIfInBounds_toArray, List.set_cons_zero, List.set_cons_succ]
            refine wpAnyH_take (i := 17) (oi := { dst := some 114, op := Go.Op.call { callee := Go.Callee.builtin Go.Builtin.len, args := #[Go.Operand.tmp 113], argTypes := #[28] }, type := 3, pos := "laws.go:333", after := #[{ on := 16, ground := Go.Ground.data }, { on := 14, ground := Go.Ground.guard }], guard := some (14, true) }) (v := ?vn017_18) rfl (by kernel_rfl) (by kernel_rfl) (by kernel_rfl) (fun _ _ _ h => h) (Or.inl ⟨by rfl, ?hn017_18⟩) hHeld ?rn017_18
            case hn017_18 =>
              intro wS hSw
              (try dsimp only at hSw)
              go_simp
              try with_reducible rfl
            case rn017_18 =>
            simp only [Act.put, List.setIfInBounds_toArray, List.set_cons_zero, List.set_cons_succ]
            refine wpAnyH_take (i := 18) (oi := { dst := some 115, op := Go.Op.binOp Go.BinOp.eql 3 (Go.Operand.tmp 114) (Go.Operand.const (Go.Value.int Go.IntKind.i64 0)) 3, type := 4, pos := "laws.go:333", after := #[{ on := 17, ground := Go.Ground.data }, { on := 14, ground := Go.Ground.guard }], guard := some (14, true) }) (v := ?vn018_19) rfl (by kernel_rfl) (by kernel_rfl) (by kernel_rfl) (fun _ _ _ h => h) (Or.inl ⟨by rfl, ?hn018_19⟩) hHeld ?rn018_19
            case hn018_19 =>
              intro wS hSw
              (try dsimp only at hSw)
              go_simp
              try with_reducible rfl
            case rn018_19 =>
            simp only [Act.put, List.setIfInBounds_toArray, List.set_cons_zero, List.set_cons_succ]
            refine wpAnyH_take (i := 19) (oi := { dst := some 116, op := Go.Op.move (Go.Operand.tmp 115), type := 4, pos := "laws.go:333", after := #[{ on := 18, ground := Go.Ground.data }, { on := 14, ground := Go.Ground.chain }, { on := 14, ground := Go.Ground.guard }], guard := some (14, true) }) (v := ?vn019_20) rfl (by kernel_rfl) (by kernel_rfl) (by kernel_rfl) (fun _ _ _ h => h) (Or.inl ⟨by rfl, ?hn019_20⟩) hHeld ?rn019_20
            case hn019_20 =>
              intro wS hSw
              (try dsimp only at hSw)
              go_simp
              try with_reducible rfl
            case rn019_20 =>
            simp only [Act.put, List.setIfInBounds_toArray, List.set_cons_zero, List.set_cons_succ]
            refine wpAnyH_take (i := 20) (oi := { dst := some 117, op := Go.Op.fieldAddr 32 (Go.Operand.tmp 6) 1, type := 0, pos := "laws.go:333", after := #[{ on := 19, ground := Go.Ground.guard }], guard := some (19, false) }) (v := ?vn020_21) rfl (by kernel_rfl) (by kernel_rfl) (by kernel_rfl) (fun _ _ _ h => h) (Or.inl ⟨by rfl, ?hn020_21⟩) hHeld ?rn020_21
            case hn020_21 =>
              intro wS hSw
              (try dsimp only at hSw)
              go_simp
              try with_reducible rfl
            case rn020_21 =>
            simp only [Act.put, List.setIfInBounds_toArray, List.set_cons_zero, List.set_cons_succ]
            refine wpAnyH_take (i := 21) (oi := { dst := some 118, op := Go.Op.load 28 (Go.Operand.tmp 117), type := 28, pos := "laws.go:333", after := #[{ on := 20, ground := Go.Ground.data }, { on := 19, ground := Go.Ground.guard }], guard := some (19, false) }) (v := ?vn021_22) rfl (by kernel_rfl) (by kernel_rfl) (by kernel_rfl) (fun _ _ _ h => h) (Or.inl ⟨by rfl, ?hn021_22⟩) hHeld ?rn021_22
            case hn021_22 =>
              intro wS hSw
              obtain ⟨y0, y1, y2, y3⟩ := unhide KEEP _ hSw
              clear hSw
              (try dsimp only at hSw)
              go_simp
              try with_reducible rfl
            case rn021_22 =>
            simp only [Act.put, List.setIfInBounds_toArray, List.set_cons_zero, List.set_cons_succ]
            refine wpAnyH_take (i := 22) (oi := { dst := some 119, op := Go.Op.indexAddr 28 (Go.Operand.tmp 118) (Go.Operand.const (Go.Value.int Go.IntKind.i64 0)), type := 0, pos := "laws.go:333", after := #[{ on := 21, ground := Go.Ground.data }, { on := 19, ground := Go.Ground.guard }], guard := some (19, false) }) (v := ?vn022_23) rfl (by kernel_rfl) (by kernel_rfl) (by kernel_rfl) (fun _ _ _ h => h) (Or.inl ⟨by rfl, ?hn022_23⟩) hHeld ?rn022_23
            case hn022_23 =>
              intro wS hSw
              clear hSw
              have s1 : (0 : Int) < (P.length : Int) := by omega
              (try dsimp only at hSw)
              go_simp
              try with_reducible rfl
            case rn022_23 =>
            simp only [Act.put, List.setIfInBounds_toArray, List.set_cons_zero, List.set_cons_succ]
            refine wpAnyH_take (i := 23) (oi := { dst := some 120, op := Go.Op.load 2 (Go.Operand.tmp 119), type := 2, pos := "laws.go:333", after := #[{ on := 22, ground := Go.Ground.data }, { on := 19, ground := Go.Ground.guard }], guard := some (19, false) }) (v := ?vn023_24) rfl (by kernel_rfl) (by kernel_rfl) (by kernel_rfl) (fun _ _ _ h => h) (Or.inl ⟨by rfl, ?hn023_24⟩) hHeld ?rn023_24
            case hn023_24 =>
              intro wS hSw
              have m0 := (hSw.cell (p := ⟨b1, o1, none⟩) hbl1).trans p0
              clear hSw
              (try dsimp only at hSw)
              go_simp
              try with_reducible rfl
            case rn023_24 =>
            simp only [Act.put, List.setIfInBounds_toArray, List.set_cons_zero, List.set_cons_succ]
            refine wpAnyH_take (i := 24) (oi := { dst := some 121, op := Go.Op.fieldAddr 27 (Go.Operand.tmp 3) 0, type := 0, pos := "laws.go:333", after := #[{ on := 19, ground := Go.Ground.guard }], guard := some (19, false) }) (v := ?vn024_25) rfl (by kernel_rfl) (by kernel_rfl) (by kernel_rfl) (fun _ _ _ h => h) (Or.inl ⟨by rfl, ?hn024_25⟩) hHeld ?rn024_25
            case hn024_25 =>
              intro wS hSw
              (try dsimp only at hSw)
              go_simp
              try with_reducible rfl
            case rn024_25 =>
            simp only [Act.put, List.setIfInBounds_toArray, List.set_cons_zero, List.set_cons_succ]
            refine wpAnyH_take (i := 25) (oi := { dst := some 122, op := Go.Op.load 24 (Go.Operand.tmp 121), type := 24, pos := "laws.go:333", after := #[{ on := 24, ground := Go.Ground.data }, { on := 19, ground := Go.Ground.guard }], guard := some (19, false) }) (v := ?vn025_26) rfl (by kernel_rfl) (by kernel_rfl) (by kernel_rfl) (fun _ _ _ h => h) (Or.inl ⟨by rfl, ?hn025_26⟩) hHeld ?rn025_26
            case hn025_26 =>
              intro wS hSw
              obtain ⟨y0, y1, y2, y3⟩ := unhide KEEP _ hSw
              clear hSw
              (try dsimp only at hSw)
              go_simp
              try with_reducible rfl
            case rn025_26 =>
            simp only [Act.put, List.setIfInBounds_toArray, List.set_cons_zero, List.set_cons_succ]
            refine wpAnyH_take (i := 26) (oi := { dst := some 123, op := Go.Op.move (Go.Operand.tmp 4), type := 28, pos := "laws.go:333", after := #[{ on := 19, ground := Go.Ground.guard }], guard := some (19, false) }) (v := ?vn026_27) rfl (by kernel_rfl) (by kernel_rfl) (by kernel_rfl) (fun _ _ _ h => h) (Or.inl ⟨by rfl, ?hn026_27⟩) hHeld ?rn026_27
            case hn026_27 =>
              intro wS hSw
              (try dsimp only at hSw)
              go_simp
              try with_reducible rfl
            case rn026_27 =>
            simp only [Act.put, List.setIfInBounds_toArray, List.set_cons_zero, List.set_cons_succ]
            refine wpAnyH_ready (rs := [27]) (by kernel_rfl) (by simp) ?_
            refine AllReadyH.cons (o := { dst := some 124, op := Go.Op.call { callee := Go.Callee.value (Go.Operand.func 16), args := #[Go.Operand.tmp 122, Go.Operand.tmp 123], argTypes := #[24, 28] }, type := 43, pos := "laws.go:333", after := #[{ on := 25, ground := Go.Ground.data }, { on := 26, ground := Go.Ground.data }, { on := 19, ground := Go.Ground.chain }, { on := 19, ground := Go.Ground.guard }], guard := some (19, false) }) rfl (fun K hK => ?_) AllReadyH.nil
            go_simp
            go_at_call 16
            refine (unhide LNR _ hHeld).mono ?_
            rintro e v3 ⟨rfl, hbw⟩
            try go_wp2_with fail
            refine hK.out _ _ (hHeld.trans (hbw.mono hHeld.size)) (fun hHeld => ?_)
            clear hK K
            try simp only [Act.put, List.setIfInBounds_toArray, List.set_cons_zero, List.set_cons_succ]
            refine wpAnyH_take (i := 28) (oi := { dst := some 125, op := Go.Op.field 43 (Go.Operand.tmp 124) 1, type := 2, pos := "laws.go:333", after := #[{ on := 27, ground := Go.Ground.data }, { on := 19, ground := Go.Ground.guard }], guard := some (19, false) }) (v := ?vn028_28) rfl (by kernel_rfl) (by kernel_rfl) (by kernel_rfl) (fun _ _ _ h => h) (Or.inl ⟨by rfl, ?hn028_28⟩) hHeld ?rn028_28
            case hn028_28 =>
              intro wS hSw
              have yf := hfi
              clear hSw
              (try dsimp only at hSw)
              go_simp
              try with_reducible rfl
            case rn028_28 =>
            simp only [Act.put, List.setIfInBounds_toArray, List.set_cons_zero, List.set_cons_succ]
            refine wpAnyH_take (i := 29) (oi := { dst := some 126, op := Go.Op.binOp Go.BinOp.eql 2 (Go.Operand.tmp 120) (Go.Operand.tmp 125) 2, type := 4, pos := "laws.go:333", after := #[{ on := 23, ground := Go.Ground.data }, { on := 28, ground := Go.Ground.data }, { on := 19, ground := Go.Ground.guard }], guard := some (19, false) }) (v := ?vn029_29) rfl (by kernel_rfl) (by kernel_rfl) (by kernel_rfl) (fun _ _ _ h => h) (Or.inl ⟨by rfl, ?hn029_29⟩) hHeld ?rn029_29
            case hn029_29 =>
              intro wS hSw
              (try dsimp only at hSw)
              go_simp
              try with_reducible rfl
            case rn029_29 =>
            simp only [Act.put, List.setIfInBounds_toArray, List.set_cons_zero, List.set_cons_succ]
            refine wpAnyH_take (i := 30) (oi := { dst := some 127, op := Go.Op.pick (Go.Operand.tmp 116) (Go.Operand.const (Go.Value.bool true)) (Go.Operand.tmp 126), type := 4, pos := "laws.go:333", after := #[{ on := 19, ground := Go.Ground.data }, { on := 29, ground := Go.Ground.data }, { on := 14, ground := Go.Ground.guard }], guard := some (14, true) }) (v := ?vn030_30) rfl (by kernel_rfl) (by kernel_rfl) (by kernel_rfl) (fun _ _ _ h => h) (Or.inl ⟨by rfl, ?hn030_30⟩) hHeld ?rn030_30
            case hn030_30 =>
              intro wS hSw
              (try dsimp only at hSw)
              go_simp
              try with_reducible rfl
            case rn030_30 =>
            simp only [Act.put, List.setIfInBounds_toArray, List.set_cons_zero, List.set_cons_succ]
            refine wpAnyH_take (i := 31) (oi := { dst := some 128, op := Go.Op.pick (Go.Operand.tmp 111) (Go.Operand.tmp 127) (Go.Operand.const (Go.Value.bool false)), type := 4, pos := "laws.go:333", after := #[{ on := 14, ground := Go.Ground.data }, { on := 30, ground := Go.Ground.data }], guard := none }) (v := ?vn031_31) rfl (by kernel_rfl) (by kernel_rfl) (by kernel_rfl) (fun _ _ _ h => h) (Or.inl ⟨by rfl, ?hn031_31⟩) hHeld ?rn031_31
            case hn031_31 =>
              intro wS hSw
              (try dsimp only at hSw)
              go_simp
              try with_reducible rfl
            case rn031_31 =>
            simp only [Act.put, List.setIfInBounds_toArray, List.set_cons_zero, List.set_cons_succ]
            refine wpAnyH_take (i := 32) (oi := { dst := some 2, op := Go.Op.assign (Go.Operand.tmp 128), type := 4, pos := "laws.go:333", after := #[{ on := 31, ground := Go.Ground.data }, { on := 27, ground := Go.Ground.chain }, { on := 0, ground := Go.Ground.phase }, { on := 1, ground := Go.Ground.phase }, { on := 2, ground := Go.Ground.phase }, { on := 3, ground := Go.Ground.phase }, { on := 4, ground := Go.Ground.phase }, { on := 5, ground := Go.Ground.phase }, { on := 6, ground := Go.Ground.phase }, { on := 7, ground := Go.Ground.phase }, { on := 8, ground := Go.Ground.phase }, { on := 9, ground := Go.Ground.phase }, { on := 10, ground := Go.Ground.phase }, { on := 11, ground := Go.Ground.phase }, { on := 12, ground := Go.Ground.phase }, { on := 13, ground := Go.Ground.phase }, { on := 14, ground := Go.Ground.phase }, { on := 15, ground := Go.Ground.phase }, { on := 16, ground := Go.Ground.phase }, { on := 17, ground := Go.Ground.phase }, { on := 18, ground := Go.Ground.phase }, { on := 19, ground := Go.Ground.phase }, { on := 20, ground := Go.Ground.phase }, { on := 21, ground := Go.Ground.phase }, { on := 22, ground := Go.Ground.phase }, { on := 23, ground := Go.Ground.phase }, { on := 24, ground := Go.Ground.phase }, { on := 25, ground := Go.Ground.phase }, { on := 26, ground := Go.Ground.phase }, { on := 27, ground := Go.Ground.phase }, { on := 28, ground := Go.Ground.phase }, { on := 29, ground := Go.Ground.phase }, { on := 30, ground := Go.Ground.phase }, { on := 31, ground := Go.Ground.phase }], guard := none }) (v := ?vn032_32) rfl (by kernel_rfl) (by kernel_rfl) (by kernel_rfl) (fun _ _ _ h => h) (Or.inl ⟨by rfl, ?hn032_32⟩) hHeld ?rn032_32
            case hn032_32 =>
              intro wS hSw
              (try dsimp only at hSw)
              go_simp
              try with_reducible rfl
            case rn032_32 =>
            simp only [Act.put, List.setIfInBounds_toArray, List.set_cons_zero, List.set_cons_succ]
            refine wpAnyH_done (by kernel_rfl) ?_ _
            refine NoPanic.normal ?_
            have HB9 := hide ((unhide HB).trans (hHeld.mono (unhide HB).size))
            clear hHeld
            go_wp2_with fail
            go_ret
            exact ⟨rfl, unhide HB9⟩
  · have hne : ((probesR x vec n).code != 0) = true := by rw [bne_iff_ne]; exact hf
    have heq : ((probesR x vec n).code == (probesR x vec n).code) = true := by simp
    clear hf R2
    generalize hfc : (probesR x vec n).code = fc at *
    generalize (probesR x vec n).list.length = m1 at *
    have HFC := hide hfc
    clear hfc
    have nb2 : Below w2.heap.size w2 (w2.alloc (.cells #[.int .i64 fc, .slice a1 m1 d1] 32)) := (Below.refl _ _).alloc (Nat.le_refl _) _
    have x6 : Box 0 #[.int .i64 fc, .slice a1 m1 d1] 32 (w2.alloc (.cells #[.int .i64 fc, .slice a1 m1 d1] 32)) w2.heap.size := newBox (Nat.zero_le _)
    have z0 : (w2.alloc (.cells #[.int .i64 fc, .slice a1 m1 d1] 32)).cell? ⟨w2.heap.size, 0, none⟩ = some (.int .i64 fc) := x6.at 0 _ rfl
    have HX6 := hide x6
    replace HX3 := hide (((unhide HX3).keep hb2).keep nb2)
    replace HRX := hide (((unhide HRX).later hb2).later nb2)
    replace HRV := hide (((unhide HRV).later hb2).later nb2)
    replace HB := hide (((unhide HB).trans (hb2.mono (unhide HB).size)).trans (nb2.mono (Nat.le_trans (unhide HB).size hb2.size)))
    have LM : Hid (∀ W, Below (w2.alloc (.cells #[.int .i64 fc, .slice a1 m1 d1] 32)).heap.size (w2.alloc (.cells #[.int .i64 fc, .slice a1 m1 d1] 32)) W → Calls Try.prog 12 #[.agg #[.slice a8 x.centers.length c8, .slice a9 x.lists.length c9], .slice av vec.length dv, .int .i64 n] W fun e w' => ∃ (b1 : Option Addr) (l1 k1 : Nat), e = .returned (.agg #[.int .i64 fc, .slice b1 l1 k1]) ∧ Below W.heap.size W w') := fun W hW => by
      refine (specProbesOf _ x _ vec n W ((unhide HRX).later hW) ((unhide HRV).later hW)).mono ?_
      rintro e w' ⟨cs, rfl, O, hb⟩
      obtain ⟨b1, k1, rfl, -⟩ := open_IntsResult O
      rw [unhide HFC]
      exact ⟨b1, _, k1, rfl, hb⟩
    have hfl := fun a l k => fieldNI0 fc a l k
    clear nb2 x6 hb2 L2 HRX HRV HRC
    go_wp2_with fail
    clear z0
    generalize w2.alloc (.cells #[.int .i64 fc, .slice a1 m1 d1] 32) = wz at *
    refine wp_region_noPanic ?_
    refine wp_region_held_drew (S := fun w' => Below wz.heap.size wz w') (by kernel_rfl) (Below.refl _ _).drew (fun hHeld => ?_)
    generalize wz.drew = wD at hHeld ⊢
    refine wpAnyH_take (i := 0) (oi := { dst := some 26, op := Go.Op.load 27 (Go.Operand.tmp 3), type := 27, pos := "laws.go:320", after := #[], guard := none }) (v := ?vc0_1) rfl (by kernel_rfl) (by kernel_rfl) (by kernel_rfl) (fun _ _ _ h => h) (Or.inl ⟨by rfl, ?hc0_1⟩) hHeld ?rc0_1
    case hc0_1 =>
      intro wS hSw
      have y0 := ((unhide HX3).keep hSw).at 0 _ rfl
      have y1 := ((unhide HX3).keep hSw).at 1 _ rfl
      simp only [List.getElem_toArray, List.getElem_cons_zero, List.getElem_cons_succ] at y0 y1
      clear hSw
      (try dsimp only at hSw)
      go_simp
      try with_reducible rfl
    case rc0_1 =>
    simp only [Act.put, List.setIfInBounds_toArray, List.set_cons_zero, List.set_cons_succ]
    refine wpAnyH_take (i := 1) (oi := { dst := some 27, op := Go.Op.move (Go.Operand.tmp 4), type := 28, pos := "laws.go:320", after := #[], guard := none }) (v := ?vc1_2) rfl (by kernel_rfl) (by kernel_rfl) (by kernel_rfl) (fun _ _ _ h => h) (Or.inl ⟨by rfl, ?hc1_2⟩) hHeld ?rc1_2
    case hc1_2 =>
      intro wS hSw
      (try dsimp only at hSw)
      go_simp
      try with_reducible rfl
    case rc1_2 =>
    simp only [Act.put, List.setIfInBounds_toArray, List.set_cons_zero, List.set_cons_succ]
    refine wpAnyH_take (i := 2) (oi := { dst := some 28, op := Go.Op.move (Go.Operand.tmp 5), type := 2, pos := "laws.go:320", after := #[], guard := none }) (v := ?vc2_3) rfl (by kernel_rfl) (by kernel_rfl) (by kernel_rfl) (fun _ _ _ h => h) (Or.inl ⟨by rfl, ?hc2_3⟩) hHeld ?rc2_3
    case hc2_3 =>
      intro wS hSw
      (try dsimp only at hSw)
      go_simp
      try with_reducible rfl
    case rc2_3 =>
    simp only [Act.put, List.setIfInBounds_toArray, List.set_cons_zero, List.set_cons_succ]
    refine wpAnyH_take (i := 5) (oi := { dst := some 31, op := Go.Op.fieldAddr 32 (Go.Operand.tmp 6) 0, type := 0, pos := "laws.go:320", after := #[], guard := none }) (v := ?vc5_4) rfl (by kernel_rfl) (by kernel_rfl) (by kernel_rfl) (fun _ _ _ h => h) (Or.inl ⟨by rfl, ?hc5_4⟩) hHeld ?rc5_4
    case hc5_4 =>
      intro wS hSw
      (try dsimp only at hSw)
      go_simp
      try with_reducible rfl
    case rc5_4 =>
    simp only [Act.put, List.setIfInBounds_toArray, List.set_cons_zero, List.set_cons_succ]
    refine wpAnyH_take (i := 6) (oi := { dst := some 32, op := Go.Op.load 2 (Go.Operand.tmp 31), type := 2, pos := "laws.go:320", after := #[{ on := 5, ground := Go.Ground.data }], guard := none }) (v := ?vc6_5) rfl (by kernel_rfl) (by kernel_rfl) (by kernel_rfl) (fun _ _ _ h => h) (Or.inl ⟨by rfl, ?hc6_5⟩) hHeld ?rc6_5
    case hc6_5 =>
      intro wS hSw
      have y6 := ((unhide HX6).keep hSw).at 0 _ rfl
      simp only [List.getElem_toArray, List.getElem_cons_zero] at y6
      clear hSw
      (try dsimp only at hSw)
      go_simp
      try with_reducible rfl
    case rc6_5 =>
    simp only [Act.put, List.setIfInBounds_toArray, List.set_cons_zero, List.set_cons_succ]
    refine wpAnyH_ready (rs := [3]) (by kernel_rfl) (by simp) ?_
    refine AllReadyH.cons (o := { dst := some 29, op := Go.Op.call { callee := Go.Callee.value (Go.Operand.func 12), args := #[Go.Operand.tmp 26, Go.Operand.tmp 27, Go.Operand.tmp 28], argTypes := #[27, 28, 2] }, type := 32, pos := "laws.go:320", after := #[{ on := 0, ground := Go.Ground.data }, { on := 1, ground := Go.Ground.data }, { on := 2, ground := Go.Ground.data }], guard := none }) rfl (fun K hK => ?_) AllReadyH.nil
    go_simp
    go_at_call 12
    refine (unhide LM _ hHeld).mono ?_
    rintro e v1 ⟨b1, l1, k1, rfl, hbw⟩
    try go_wp2_with fail
    refine hK.out _ _ (hHeld.trans (hbw.mono hHeld.size)) (fun hHeld => ?_)
    clear hK K
    try simp only [Act.put, List.setIfInBounds_toArray, List.set_cons_zero, List.set_cons_succ]
    refine wpAnyH_take (i := 4) (oi := { dst := some 30, op := Go.Op.field 32 (Go.Operand.tmp 29) 0, type := 2, pos := "laws.go:320", after := #[{ on := 3, ground := Go.Ground.data }], guard := none }) (v := ?vc4_6) rfl (by kernel_rfl) (by kernel_rfl) (by kernel_rfl) (fun _ _ _ h => h) (Or.inl ⟨by rfl, ?hc4_6⟩) hHeld ?rc4_6
    case hc4_6 =>
      intro wS hSw
      have yf := hfl b1 l1 k1
      clear hSw
      (try dsimp only at hSw)
      go_simp
      try with_reducible rfl
    case rc4_6 =>
    simp only [Act.put, List.setIfInBounds_toArray, List.set_cons_zero, List.set_cons_succ]
    refine wpAnyH_take (i := 7) (oi := { dst := some 33, op := Go.Op.binOp Go.BinOp.eql 2 (Go.Operand.tmp 30) (Go.Operand.tmp 32) 2, type := 4, pos := "laws.go:320", after := #[{ on := 4, ground := Go.Ground.data }, { on := 6, ground := Go.Ground.data }], guard := none }) (v := ?vc7_7) rfl (by kernel_rfl) (by kernel_rfl) (by kernel_rfl) (fun _ _ _ h => h) (Or.inl ⟨by rfl, ?hc7_7⟩) hHeld ?rc7_7
    case hc7_7 =>
      intro wS hSw
      (try dsimp only at hSw)
      go_simp
      try with_reducible rfl
    case rc7_7 =>
    simp only [Act.put, List.setIfInBounds_toArray, List.set_cons_zero, List.set_cons_succ]
    refine wpAnyH_take (i := 8) (oi := { dst := some 2, op := Go.Op.assign (Go.Operand.tmp 33), type := 4, pos := "laws.go:320", after := #[{ on := 7, ground := Go.Ground.data }, { on := 3, ground := Go.Ground.chain }, { on := 0, ground := Go.Ground.phase }, { on := 1, ground := Go.Ground.phase }, { on := 2, ground := Go.Ground.phase }, { on := 3, ground := Go.Ground.phase }, { on := 4, ground := Go.Ground.phase }, { on := 5, ground := Go.Ground.phase }, { on := 6, ground := Go.Ground.phase }, { on := 7, ground := Go.Ground.phase }], guard := none }) (v := ?vc8_8) rfl (by kernel_rfl) (by kernel_rfl) (by kernel_rfl) (fun _ _ _ h => h) (Or.inl ⟨by rfl, ?hc8_8⟩) hHeld ?rc8_8
    case hc8_8 =>
      intro wS hSw
      (try dsimp only at hSw)
      go_simp
      try with_reducible rfl
    case rc8_8 =>
    simp only [Act.put, List.setIfInBounds_toArray, List.set_cons_zero, List.set_cons_succ]
    refine wpAnyH_done (by kernel_rfl) ?_ _
    refine NoPanic.normal ?_
    have HB9 := hide ((unhide HB).trans (hHeld.mono (unhide HB).size))
    clear hHeld
    go_wp2_with fail
    go_ret
    exact ⟨rfl, unhide HB9⟩

theorem lawFnProbes (ao : Option Addr) (len cap : Nat) (zs : List Int) (w : World) (h : (ao = none ∧ len = 0 ∧ cap = 0 ∧ zs = []) ∨
    ∃ x, ao = some x ∧ len ≤ cap ∧ cap ≤ maxLen ∧ zs.length = cap ∧ (∀ i, i < zs.length → w.cell? (x.add i) = some (.int .u8 (zs.getD i 0))) ∧ ∀ n ∈ zs, (Lit.int .u8 n).wf = true) :
    Calls Try.prog 3 #[.slice ao len cap] w fun e w' => e = .returned (.bool true) ∧ Below w.heap.size w w' := by
  by_cases hn : len ≤ 1048576
  · exact lawProbes_few ao len cap w hn (isCode_of_row h hn)
  · exact lawProbes_many ao len cap w (by omega)

end Go.Proofs.Ytggnnbdjihihiaa
