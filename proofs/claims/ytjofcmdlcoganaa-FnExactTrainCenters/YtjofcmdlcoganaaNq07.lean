/-
  Texts of this proof in one: ImplSums, Mean, ListC, MeanOf.
  Their conditions stand in their theorems.
-/
import Derived.Test.YtjofcmdlcoganaaNq06
import Derived.Test.YtjofcmdlcoganaaNq02
import Derived.Deep.RegionHeld3
import Derived.Deep.CutRange
import Derived.WalkKit
import Derived.Test.YtjofcmdlcoganaaChecked
import Derived.Test.YtjofcmdlcoganaaNq01
import Derived.Test.YtjofcmdlcoganaaNq05

namespace Go.Proofs.Ytjofcmdlcoganaa
open Go.RowKit

theorem infoVec : (Try.prog.info? 100).map (fun i => (i.zero, i.size, i.bytes)) = some (some (.agg #[.int .i64 0, .int .i64 0, .int .i64 0]), 3, 24) := by kernel_rfl
theorem made3 (n : Nat) : (madeCells #[.int .i64 0, .int .i64 0, .int .i64 0] (n * 3)).toList = List.replicate (n * 3) (Value.int .i64 0) := by
  apply List.ext_getElem?
  intro i
  by_cases hi : i < n * 3
  · have hm : i % 3 < 3 := Nat.mod_lt _ (by omega)
    rcases (show i % 3 = 0 ∨ i % 3 = 1 ∨ i % 3 = 2 by omega) with h | h | h <;> simp [madeCells, hi, h]
  · rw [List.getElem?_eq_none (by simp [madeCells]; omega), List.getElem?_eq_none (by simp; omega)]

set_option maxRecDepth 10000 in
set_option maxHeartbeats 1000000 in
theorem newSumsV (n : Nat) (hn : n ≤ 6) (w : World) :
    Calls Try.prog 75 #[.int .i64 n, .func (.func 76) #[] #[]] w fun e w' => ∃ g, e = .returned (.agg #[.slice (some ⟨g, 0, none⟩) n n, .func (.func 76) #[] #[]]) ∧ w.heap.size ≤ g ∧ Sums3 w' g n (fun _ _ => 0) ∧ Below w.heap.size w w' := by
  obtain ⟨i0, hi, hz0, hz1, hz2⟩ := info_parts infoVec
  have HB0 : Below w.heap.size w (w.alloc (.cells #[.slice none 0 0, .nilFunc] 97)) := (Below.refl _ _).alloc (Nat.le_refl _) _
  have bR : Box w.heap.size #[.slice none 0 0, .nilFunc] 97 (w.alloc (.cells #[.slice none 0 0, .nilFunc] 97)) w.heap.size := newBox (Nat.le_refl _)
  have hs0 : (w.alloc (.cells #[.slice none 0 0, .nilFunc] 97)).heap.size = w.heap.size + 1 := by simp
  go_enter Try.func75, Try.ntmps75
  go_upto_region 1 with fail
  generalize w.alloc (.cells #[.slice none 0 0, .nilFunc] 97) = W0 at *
  go_wp2_with (at_make; refine wpList_make_full _ rfl _ _ 94 rfl W0.heap.size 100 i0 _ 3 Try.underlying94 hi hz0 hz1 _ _ _ _ n rfl rfl rfl rfl ?c1 ?c2 ?c3 ?_)
  case c1 => rw [hz2]; omega
  case c2 => unfold maxLen; omega
  case c3 => exact Nat.le_refl _
  intro w2 hown1 hgrow1
  have hB1 : Below W0.heap.size W0 w2 := (Below.refl _ _).grown hgrow1 (Nat.le_refl _) (by simp)
  rw [made3] at hown1
  have hS := Sums3.of_row hown1
  replace bR := bR.keep hB1
  have z0 : w2.cell? ⟨w.heap.size, 0, none⟩ = some (.slice none 0 0) := bR.at 0 _ rfl
  have z1 : w2.cell? ⟨w.heap.size, 1, none⟩ = some .nilFunc := bR.at 1 _ rfl
  have f0 := bR.soft 0
  have f1 := bR.soft 1
  have l0 := bR.lt
  have HB := hide (HB0.trans (hB1.mono HB0.size))
  have HS := hide hS
  have hsf : ∀ (W : World) (a : Addr), (store a (.func (.func 76) #[] #[])).run Try.prog W = stored Try.prog W a (.func (.func 76) #[] #[]) .plain := fun W a => run_store _ _ _ _ _ rfl
  clear hgrow1 hi hz0 hz1 hz2 hown1 hB1 HB0 bR hS
  go_wp2_with fail
  refine bodyPost_ret (v := .agg #[.slice (some ⟨w.heap.size + 1, 0, none⟩) n n, .func (.func 76) #[] #[]]) (by simp [results, Try.results75, go_sem, z0, z1]) rfl ?_
  refine ⟨w.heap.size + 1, rfl, by omega, ?_, ((unhide HB).setCell (by simp) _).setCell (by simp) _⟩
  have hE : Ext (fun c => c = w.heap.size) w2 ((w2.setCell ⟨w.heap.size, 0, none⟩ (.slice (some ⟨w.heap.size + 1, 0, none⟩) n n)).setCell ⟨w.heap.size, 1, none⟩ (.func (.func 76) #[] #[])) := ((Ext.refl (fun c => c = w.heap.size) _).setCell ⟨w.heap.size, 0, none⟩ _ rfl).setCell ⟨w.heap.size, 1, none⟩ _ rfl
  exact (unhide HS).ext hE (by omega)

set_option maxRecDepth 10000 in
set_option maxHeartbeats 1000000 in
theorem newSumsN (n : Nat) (hn : n ≤ 6) (w : World) :
    Calls Try.prog 77 #[.int .i64 n, .func (.func 78) #[] #[]] w fun e w' => ∃ g, e = .returned (.agg #[.slice (some ⟨g, 0, none⟩) n n, .func (.func 78) #[] #[]]) ∧ w.heap.size ≤ g ∧ Sums1 w' g n (fun _ => 0) ∧ Below w.heap.size w w' := by
  obtain ⟨i0, hi, hz0, hz1, hz2⟩ := info_parts info2
  have HB0 : Below w.heap.size w (w.alloc (.cells #[.slice none 0 0, .nilFunc] 103)) := (Below.refl _ _).alloc (Nat.le_refl _) _
  have bR : Box w.heap.size #[.slice none 0 0, .nilFunc] 103 (w.alloc (.cells #[.slice none 0 0, .nilFunc] 103)) w.heap.size := newBox (Nat.le_refl _)
  have hs0 : (w.alloc (.cells #[.slice none 0 0, .nilFunc] 103)).heap.size = w.heap.size + 1 := by simp
  go_enter Try.func77, Try.ntmps77
  go_upto_region 1 with fail
  generalize w.alloc (.cells #[.slice none 0 0, .nilFunc] 103) = W0 at *
  go_wp2_with (at_make; refine wpList_make_full _ rfl _ _ 25 rfl W0.heap.size 2 i0 _ 1 Try.underlying25 hi hz0 hz1 _ _ _ _ n rfl rfl rfl rfl ?c1 ?c2 ?c3 ?_)
  case c1 => rw [hz2]; omega
  case c2 => unfold maxLen; omega
  case c3 => exact Nat.le_refl _
  intro w2 hown1 hgrow1
  have hB1 : Below W0.heap.size W0 w2 := (Below.refl _ _).grown hgrow1 (Nat.le_refl _) (by simp)
  rw [toList_madeCells_one] at hown1
  have hS := Sums1.of_row hown1
  replace bR := bR.keep hB1
  have z0 : w2.cell? ⟨w.heap.size, 0, none⟩ = some (.slice none 0 0) := bR.at 0 _ rfl
  have z1 : w2.cell? ⟨w.heap.size, 1, none⟩ = some .nilFunc := bR.at 1 _ rfl
  have f0 := bR.soft 0
  have f1 := bR.soft 1
  have l0 := bR.lt
  have HB := hide (HB0.trans (hB1.mono HB0.size))
  have HS := hide hS
  have hsf : ∀ (W : World) (a : Addr), (store a (.func (.func 78) #[] #[])).run Try.prog W = stored Try.prog W a (.func (.func 78) #[] #[]) .plain := fun W a => run_store _ _ _ _ _ rfl
  clear hgrow1 hi hz0 hz1 hz2 hown1 hB1 HB0 bR hS
  go_wp2_with fail
  refine bodyPost_ret (v := .agg #[.slice (some ⟨w.heap.size + 1, 0, none⟩) n n, .func (.func 78) #[] #[]]) (by simp [results, Try.results77, go_sem, z0, z1]) rfl ?_
  refine ⟨w.heap.size + 1, rfl, by omega, ?_, ((unhide HB).setCell (by simp) _).setCell (by simp) _⟩
  have hE : Ext (fun c => c = w.heap.size) w2 ((w2.setCell ⟨w.heap.size, 0, none⟩ (.slice (some ⟨w.heap.size + 1, 0, none⟩) n n)).setCell ⟨w.heap.size, 1, none⟩ (.func (.func 78) #[] #[])) := ((Ext.refl (fun c => c = w.heap.size) _).setCell ⟨w.heap.size, 0, none⟩ _ rfl).setCell ⟨w.heap.size, 1, none⟩ _ rfl
  exact (unhide HS).ext hE (by omega)

set_option maxRecDepth 100000 in
set_option maxHeartbeats 2000000 in
theorem addSumV (g n cap p : Nat) (f : Nat → Nat → Int) (x y z : Int) (w : World) (hS : Sums3 w g n f) (hp : p < n) (x1 : -1000000 ≤ f p 0 + x) (x2 : f p 0 + x ≤ 1000000) (y1 : -1000000 ≤ f p 1 + y) (y2 : f p 1 + y ≤ 1000000) (z1 : -1000000 ≤ f p 2 + z) (z2 : f p 2 + z ≤ 1000000) :
    Calls Try.prog 80 #[.agg #[.slice (some ⟨g, 0, none⟩) n cap, .func (.func 76) #[] #[]], .int .i64 p, .agg #[.int .i64 x, .int .i64 y, .int .i64 z]] w fun e w' => e = .returned (.tuple #[]) ∧ Sums3 w' g n (upd3 f p (f p 0 + x) (f p 1 + y) (f p 2 + z)) ∧ Ext (fun c => c = g) w w' := by
  have hg := hS.lt
  have HB0 : Below w.heap.size w ((w.alloc (.cells #[.slice (some ⟨g, 0, none⟩) n cap, .func (.func 76) #[] #[]] 97)).alloc (.cells #[.int .i64 x, .int .i64 y, .int .i64 z] 100)) := ((Below.refl _ _).alloc (Nat.le_refl _) _).alloc (by simp) _
  have b3 : Box w.heap.size #[.slice (some ⟨g, 0, none⟩) n cap, .func (.func 76) #[] #[]] 97 ((w.alloc (.cells #[.slice (some ⟨g, 0, none⟩) n cap, .func (.func 76) #[] #[]] 97)).alloc (.cells #[.int .i64 x, .int .i64 y, .int .i64 z] 100)) w.heap.size := (newBox (Nat.le_refl _)).grow _
  have b5 : Box w.heap.size #[.int .i64 x, .int .i64 y, .int .i64 z] 100 ((w.alloc (.cells #[.slice (some ⟨g, 0, none⟩) n cap, .func (.func 76) #[] #[]] 97)).alloc (.cells #[.int .i64 x, .int .i64 y, .int .i64 z] 100)) (w.heap.size + 1) := newBoxAt (by omega) (by simp)
  have hS0 := hS.later HB0
  have i1 : (0 : Int) ≤ (p : Int) := by omega
  have i2 : (p : Int) < (n : Int) := by omega
  clear hS
  go_enter Try.func80, Try.ntmps80
  go_upto_region 1 with fail
  generalize (w.alloc (.cells #[.slice (some ⟨g, 0, none⟩) n cap, .func (.func 76) #[] #[]] 97)).alloc (.cells #[.int .i64 x, .int .i64 y, .int .i64 z] 100) = W0 at *
  have hSD : Sums3 W0.drew g n f := hS0.drew
  clear hS0
  refine wp_region_noPanic ?_
  refine wp_region_held_drew (S := fun w' => Ext (fun c => c = g) W0 w') (by kernel_rfl) (Ext.refl _ _).drewX (fun hHeld => ?_)
  generalize W0.drew = wD at hHeld hSD ⊢
  refine wpAnyH_take (i := 0) (oi := { dst := some 6, op := Go.Op.fieldAddr 97 (Go.Operand.tmp 3) 0, type := 0, pos := "l06_center.go:30", after := #[], guard := none }) (v := ?v0_1) rfl (by kernel_rfl) (by kernel_rfl) (by kernel_rfl) (fun _ _ _ h => h) (Or.inl ⟨by rfl, ?h0_1⟩) hHeld ?r0_1
  case h0_1 =>
    intro wS hSw
    (try dsimp only at hSw)
    go_simp
    try with_reducible rfl
  case r0_1 =>
  simp only [Act.put, List.setIfInBounds_toArray, List.set_cons_zero, List.set_cons_succ]
  refine wpAnyH_take (i := 1) (oi := { dst := some 7, op := Go.Op.load 94 (Go.Operand.tmp 6), type := 94, pos := "l06_center.go:30", after := #[{ on := 0, ground := Go.Ground.data }], guard := none }) (v := ?v1_2) rfl (by kernel_rfl) (by kernel_rfl) (by kernel_rfl) (fun _ _ _ h => h) (Or.inl ⟨by rfl, ?h1_2⟩) hHeld ?r1_2
  case h1_2 =>
    intro wS hSw
    have y0 : wS.cell? ⟨w.heap.size, 0, none⟩ = some (.slice (some ⟨g, 0, none⟩) n cap) := (b3.ext hSw (by omega)).at 0 _ rfl
    have y1 : wS.cell? ⟨w.heap.size, 1, none⟩ = some (.func (.func 76) #[] #[]) := (b3.ext hSw (by omega)).at 1 _ rfl
    have y2 : wS.cell? ⟨w.heap.size + 1, 0, none⟩ = some (.int .i64 x) := (b5.ext hSw (by omega)).at 0 _ rfl
    have y3 : wS.cell? ⟨w.heap.size + 1, 1, none⟩ = some (.int .i64 y) := (b5.ext hSw (by omega)).at 1 _ rfl
    have y4 : wS.cell? ⟨w.heap.size + 1, 2, none⟩ = some (.int .i64 z) := (b5.ext hSw (by omega)).at 2 _ rfl
    clear hSw
    (try dsimp only at hSw)
    go_simp
    try with_reducible rfl
  case r1_2 =>
  simp only [Act.put, List.setIfInBounds_toArray, List.set_cons_zero, List.set_cons_succ]
  refine wpAnyH_take (i := 2) (oi := { dst := some 8, op := Go.Op.move (Go.Operand.tmp 1), type := 2, pos := "l06_center.go:30", after := #[], guard := none }) (v := ?v2_3) rfl (by kernel_rfl) (by kernel_rfl) (by kernel_rfl) (fun _ _ _ h => h) (Or.inl ⟨by rfl, ?h2_3⟩) hHeld ?r2_3
  case h2_3 =>
    intro wS hSw
    (try dsimp only at hSw)
    go_simp
    try with_reducible rfl
  case r2_3 =>
  simp only [Act.put, List.setIfInBounds_toArray, List.set_cons_zero, List.set_cons_succ]
  refine wpAnyH_take (i := 3) (oi := { dst := some 9, op := Go.Op.fieldAddr 97 (Go.Operand.tmp 3) 1, type := 0, pos := "l06_center.go:30", after := #[], guard := none }) (v := ?v3_4) rfl (by kernel_rfl) (by kernel_rfl) (by kernel_rfl) (fun _ _ _ h => h) (Or.inl ⟨by rfl, ?h3_4⟩) hHeld ?r3_4
  case h3_4 =>
    intro wS hSw
    (try dsimp only at hSw)
    go_simp
    try with_reducible rfl
  case r3_4 =>
  simp only [Act.put, List.setIfInBounds_toArray, List.set_cons_zero, List.set_cons_succ]
  refine wpAnyH_take (i := 4) (oi := { dst := some 10, op := Go.Op.load 95 (Go.Operand.tmp 9), type := 95, pos := "l06_center.go:30", after := #[{ on := 3, ground := Go.Ground.data }], guard := none }) (v := ?v4_5) rfl (by kernel_rfl) (by kernel_rfl) (by kernel_rfl) (fun _ _ _ h => h) (Or.inl ⟨by rfl, ?h4_5⟩) hHeld ?r4_5
  case h4_5 =>
    intro wS hSw
    have y0 : wS.cell? ⟨w.heap.size, 0, none⟩ = some (.slice (some ⟨g, 0, none⟩) n cap) := (b3.ext hSw (by omega)).at 0 _ rfl
    have y1 : wS.cell? ⟨w.heap.size, 1, none⟩ = some (.func (.func 76) #[] #[]) := (b3.ext hSw (by omega)).at 1 _ rfl
    have y2 : wS.cell? ⟨w.heap.size + 1, 0, none⟩ = some (.int .i64 x) := (b5.ext hSw (by omega)).at 0 _ rfl
    have y3 : wS.cell? ⟨w.heap.size + 1, 1, none⟩ = some (.int .i64 y) := (b5.ext hSw (by omega)).at 1 _ rfl
    have y4 : wS.cell? ⟨w.heap.size + 1, 2, none⟩ = some (.int .i64 z) := (b5.ext hSw (by omega)).at 2 _ rfl
    clear hSw
    (try dsimp only at hSw)
    go_simp
    try with_reducible rfl
  case r4_5 =>
  simp only [Act.put, List.setIfInBounds_toArray, List.set_cons_zero, List.set_cons_succ]
  refine wpAnyH_take (i := 5) (oi := { dst := some 11, op := Go.Op.fieldAddr 97 (Go.Operand.tmp 3) 0, type := 0, pos := "l06_center.go:30", after := #[], guard := none }) (v := ?v5_6) rfl (by kernel_rfl) (by kernel_rfl) (by kernel_rfl) (fun _ _ _ h => h) (Or.inl ⟨by rfl, ?h5_6⟩) hHeld ?r5_6
  case h5_6 =>
    intro wS hSw
    (try dsimp only at hSw)
    go_simp
    try with_reducible rfl
  case r5_6 =>
  simp only [Act.put, List.setIfInBounds_toArray, List.set_cons_zero, List.set_cons_succ]
  refine wpAnyH_take (i := 6) (oi := { dst := some 12, op := Go.Op.load 94 (Go.Operand.tmp 11), type := 94, pos := "l06_center.go:30", after := #[{ on := 5, ground := Go.Ground.data }], guard := none }) (v := ?v6_7) rfl (by kernel_rfl) (by kernel_rfl) (by kernel_rfl) (fun _ _ _ h => h) (Or.inl ⟨by rfl, ?h6_7⟩) hHeld ?r6_7
  case h6_7 =>
    intro wS hSw
    have y0 : wS.cell? ⟨w.heap.size, 0, none⟩ = some (.slice (some ⟨g, 0, none⟩) n cap) := (b3.ext hSw (by omega)).at 0 _ rfl
    have y1 : wS.cell? ⟨w.heap.size, 1, none⟩ = some (.func (.func 76) #[] #[]) := (b3.ext hSw (by omega)).at 1 _ rfl
    have y2 : wS.cell? ⟨w.heap.size + 1, 0, none⟩ = some (.int .i64 x) := (b5.ext hSw (by omega)).at 0 _ rfl
    have y3 : wS.cell? ⟨w.heap.size + 1, 1, none⟩ = some (.int .i64 y) := (b5.ext hSw (by omega)).at 1 _ rfl
    have y4 : wS.cell? ⟨w.heap.size + 1, 2, none⟩ = some (.int .i64 z) := (b5.ext hSw (by omega)).at 2 _ rfl
    clear hSw
    (try dsimp only at hSw)
    go_simp
    try with_reducible rfl
  case r6_7 =>
  simp only [Act.put, List.setIfInBounds_toArray, List.set_cons_zero, List.set_cons_succ]
  refine wpAnyH_take (i := 7) (oi := { dst := some 13, op := Go.Op.move (Go.Operand.tmp 1), type := 2, pos := "l06_center.go:30", after := #[], guard := none }) (v := ?v7_8) rfl (by kernel_rfl) (by kernel_rfl) (by kernel_rfl) (fun _ _ _ h => h) (Or.inl ⟨by rfl, ?h7_8⟩) hHeld ?r7_8
  case h7_8 =>
    intro wS hSw
    (try dsimp only at hSw)
    go_simp
    try with_reducible rfl
  case r7_8 =>
  simp only [Act.put, List.setIfInBounds_toArray, List.set_cons_zero, List.set_cons_succ]
  refine wpAnyH_take (i := 8) (oi := { dst := some 14, op := Go.Op.indexAddr 94 (Go.Operand.tmp 12) (Go.Operand.tmp 13), type := 0, pos := "l06_center.go:30", after := #[{ on := 6, ground := Go.Ground.data }, { on := 7, ground := Go.Ground.data }], guard := none }) (v := ?v8_9) rfl (by kernel_rfl) (by kernel_rfl) (by kernel_rfl) (fun _ _ _ h => h) (Or.inl ⟨by rfl, ?h8_9⟩) hHeld ?r8_9
  case h8_9 =>
    intro wS hSw
    (try dsimp only at hSw)
    go_simp
    try with_reducible rfl
  case r8_9 =>
  simp only [Act.put, List.setIfInBounds_toArray, List.set_cons_zero, List.set_cons_succ]
  refine wpAnyH_take (i := 10) (oi := { dst := some 16, op := Go.Op.load 100 (Go.Operand.tmp 5), type := 100, pos := "l06_center.go:30", after := #[], guard := none }) (v := ?v10_10) rfl (by kernel_rfl) (by kernel_rfl) (by kernel_rfl) (fun _ _ _ h => h) (Or.inl ⟨by rfl, ?h10_10⟩) hHeld ?r10_10
  case h10_10 =>
    intro wS hSw
    have y0 : wS.cell? ⟨w.heap.size, 0, none⟩ = some (.slice (some ⟨g, 0, none⟩) n cap) := (b3.ext hSw (by omega)).at 0 _ rfl
    have y1 : wS.cell? ⟨w.heap.size, 1, none⟩ = some (.func (.func 76) #[] #[]) := (b3.ext hSw (by omega)).at 1 _ rfl
    have y2 : wS.cell? ⟨w.heap.size + 1, 0, none⟩ = some (.int .i64 x) := (b5.ext hSw (by omega)).at 0 _ rfl
    have y3 : wS.cell? ⟨w.heap.size + 1, 1, none⟩ = some (.int .i64 y) := (b5.ext hSw (by omega)).at 1 _ rfl
    have y4 : wS.cell? ⟨w.heap.size + 1, 2, none⟩ = some (.int .i64 z) := (b5.ext hSw (by omega)).at 2 _ rfl
    clear hSw
    (try dsimp only at hSw)
    go_simp
    try with_reducible rfl
  case r10_10 =>
  simp only [Act.put, List.setIfInBounds_toArray, List.set_cons_zero, List.set_cons_succ]
  refine wpAnyH_ready (rs := [9]) (by kernel_rfl) (by simp) ?_
  refine AllReadyH.cons (o := { dst := some 15, op := Go.Op.load 100 (Go.Operand.tmp 14), type := 100, pos := "l06_center.go:30", after := #[{ on := 8, ground := Go.Ground.data }], guard := none }) rfl (fun K hK => ?_) AllReadyH.nil
  have s0 : wD.cell? ⟨g, p * 3, none⟩ = some (.int .i64 (f p 0)) := hSD.cell p hp 0 (by omega)
  have s1 : wD.cell? ⟨g, p * 3 + 1, none⟩ = some (.int .i64 (f p 1)) := hSD.cell p hp 1 (by omega)
  have s2 : wD.cell? ⟨g, p * 3 + 2, none⟩ = some (.int .i64 (f p 2)) := hSD.cell p hp 2 (by omega)
  go_simp
  refine hK.out _ _ hHeld (fun hHeld => ?_)
  clear hK K
  try simp only [Act.put, List.setIfInBounds_toArray, List.set_cons_zero, List.set_cons_succ]
  refine wpAnyH_ready (rs := [11]) (by kernel_rfl) (by simp) ?_
  refine AllReadyH.cons (o := { dst := some 17, op := Go.Op.call { callee := Go.Callee.value (Go.Operand.tmp 10), args := #[Go.Operand.tmp 15, Go.Operand.tmp 16], argTypes := #[100, 100] }, type := 100, pos := "l06_center.go:30", after := #[{ on := 4, ground := Go.Ground.data }, { on := 9, ground := Go.Ground.data }, { on := 10, ground := Go.Ground.data }], guard := none }) rfl (fun K hK => ?_) AllReadyH.nil
  go_simp
  go_at_call 76
  refine (plusVec (f p 0) (f p 1) (f p 2) x y z _ x1 x2 y1 y2 z1 z2).mono ?_
  rintro e w3 ⟨rfl, hbw⟩
  try go_wp2_with fail
  refine hK.out _ _ (hHeld.trans (ext_of_below hbw _)) (fun hHeld => ?_)
  clear hK K
  try simp only [Act.put, List.setIfInBounds_toArray, List.set_cons_zero, List.set_cons_succ]
  refine wpAnyH_take (i := 12) (oi := { dst := some 18, op := Go.Op.indexAddr 94 (Go.Operand.tmp 7) (Go.Operand.tmp 8), type := 0, pos := "l06_center.go:30", after := #[{ on := 1, ground := Go.Ground.data }, { on := 2, ground := Go.Ground.data }, { on := 0, ground := Go.Ground.phase }, { on := 1, ground := Go.Ground.phase }, { on := 2, ground := Go.Ground.phase }, { on := 3, ground := Go.Ground.phase }, { on := 4, ground := Go.Ground.phase }, { on := 5, ground := Go.Ground.phase }, { on := 6, ground := Go.Ground.phase }, { on := 7, ground := Go.Ground.phase }, { on := 8, ground := Go.Ground.phase }, { on := 9, ground := Go.Ground.phase }, { on := 10, ground := Go.Ground.phase }, { on := 11, ground := Go.Ground.phase }], guard := none }) (v := ?v12_11) rfl (by kernel_rfl) (by kernel_rfl) (by kernel_rfl) (fun _ _ _ h => h) (Or.inl ⟨by rfl, ?h12_11⟩) hHeld ?r12_11
  case h12_11 =>
    intro wS hSw
    (try dsimp only at hSw)
    go_simp
    try with_reducible rfl
  case r12_11 =>
  simp only [Act.put, List.setIfInBounds_toArray, List.set_cons_zero, List.set_cons_succ]
  refine wpAnyH_ready (rs := [13]) (by kernel_rfl) (by simp) ?_
  refine AllReadyH.cons (o := { dst := none, op := Go.Op.store 100 (Go.Operand.tmp 18) (Go.Operand.tmp 17), type := 0, pos := "l06_center.go:30", after := #[{ on := 12, ground := Go.Ground.data }, { on := 11, ground := Go.Ground.data }, { on := 11, ground := Go.Ground.chain }, { on := 0, ground := Go.Ground.phase }, { on := 1, ground := Go.Ground.phase }, { on := 2, ground := Go.Ground.phase }, { on := 3, ground := Go.Ground.phase }, { on := 4, ground := Go.Ground.phase }, { on := 5, ground := Go.Ground.phase }, { on := 6, ground := Go.Ground.phase }, { on := 7, ground := Go.Ground.phase }, { on := 8, ground := Go.Ground.phase }, { on := 9, ground := Go.Ground.phase }, { on := 10, ground := Go.Ground.phase }, { on := 11, ground := Go.Ground.phase }], guard := none }) rfl (fun K hK => ?_) AllReadyH.nil
  have hS3 := hSD.later hbw
  have s0 : w3.cell? ⟨g, p * 3, none⟩ = some (.int .i64 (f p 0)) := hS3.cell p hp 0 (by omega)
  have s1 : w3.cell? ⟨g, p * 3 + 1, none⟩ = some (.int .i64 (f p 1)) := hS3.cell p hp 1 (by omega)
  have s2 : w3.cell? ⟨g, p * 3 + 2, none⟩ = some (.int .i64 (f p 2)) := hS3.cell p hp 2 (by omega)
  have fz := hS3.soft
  have lg := hS3.lt
  go_simp
  refine hK.out _ _ (((hHeld.setCell ⟨g, p * 3, none⟩ _ rfl).setCell ⟨g, p * 3 + 1, none⟩ _ rfl).setCell ⟨g, p * 3 + 2, none⟩ _ rfl) (fun hHeld => ?_)
  clear hK K
  try simp only [Act.put, List.setIfInBounds_toArray, List.set_cons_zero, List.set_cons_succ]
  refine wpAnyH_done (by kernel_rfl) ?_ _
  refine NoPanic.normal ?_
  have HS9 := hide (hS3.set p hp (f p 0 + x) (f p 1 + y) (f p 2 + z))
  have HE9 := hide ((ext_of_below HB0 (fun c => c = g)).trans hHeld)
  clear hHeld hS3 hbw hSD
  go_wp2_with fail
  refine bodyPost_end (v := .tuple #[]) (by simp [results, Try.results80, go_sem]) rfl ?_
  exact ⟨rfl, unhide HS9, unhide HE9⟩

set_option maxRecDepth 100000 in
set_option maxHeartbeats 2000000 in
theorem addSumN (g n cap p : Nat) (f : Nat → Int) (x : Int) (w : World) (hS : Sums1 w g n f) (hp : p < n) (x1 : -1000000 ≤ f p + x) (x2 : f p + x ≤ 1000000) :
    Calls Try.prog 81 #[.agg #[.slice (some ⟨g, 0, none⟩) n cap, .func (.func 78) #[] #[]], .int .i64 p, .int .i64 x] w fun e w' => e = .returned (.tuple #[]) ∧ Sums1 w' g n (upd1 f p (f p + x)) ∧ Ext (fun c => c = g) w w' := by
  have hg := hS.lt
  have HB0 : Below w.heap.size w (w.alloc (.cells #[.slice (some ⟨g, 0, none⟩) n cap, .func (.func 78) #[] #[]] 103)) := (Below.refl _ _).alloc (Nat.le_refl _) _
  have b3 : Box w.heap.size #[.slice (some ⟨g, 0, none⟩) n cap, .func (.func 78) #[] #[]] 103 (w.alloc (.cells #[.slice (some ⟨g, 0, none⟩) n cap, .func (.func 78) #[] #[]] 103)) w.heap.size := newBox (Nat.le_refl _)
  have hS0 := hS.later HB0
  have i1 : (0 : Int) ≤ (p : Int) := by omega
  have i2 : (p : Int) < (n : Int) := by omega
  clear hS
  go_enter Try.func81, Try.ntmps81
  go_upto_region 1 with fail
  generalize w.alloc (.cells #[.slice (some ⟨g, 0, none⟩) n cap, .func (.func 78) #[] #[]] 103) = W0 at *
  have hSD : Sums1 W0.drew g n f := hS0.drew
  clear hS0
  refine wp_region_noPanic ?_
  refine wp_region_held_drew (S := fun w' => Ext (fun c => c = g) W0 w') (by kernel_rfl) (Ext.refl _ _).drewX (fun hHeld => ?_)
  generalize W0.drew = wD at hHeld hSD ⊢
  refine wpAnyH_take (i := 0) (oi := { dst := some 6, op := Go.Op.fieldAddr 103 (Go.Operand.tmp 3) 0, type := 0, pos := "l06_center.go:30", after := #[], guard := none }) (v := ?v0_1) rfl (by kernel_rfl) (by kernel_rfl) (by kernel_rfl) (fun _ _ _ h => h) (Or.inl ⟨by rfl, ?h0_1⟩) hHeld ?r0_1
  case h0_1 =>
    intro wS hSw
    (try dsimp only at hSw)
    go_simp
    try with_reducible rfl
  case r0_1 =>
  simp only [Act.put, List.setIfInBounds_toArray, List.set_cons_zero, List.set_cons_succ]
  refine wpAnyH_take (i := 1) (oi := { dst := some 7, op := Go.Op.load 25 (Go.Operand.tmp 6), type := 25, pos := "l06_center.go:30", after := #[{ on := 0, ground := Go.Ground.data }], guard := none }) (v := ?v1_2) rfl (by kernel_rfl) (by kernel_rfl) (by kernel_rfl) (fun _ _ _ h => h) (Or.inl ⟨by rfl, ?h1_2⟩) hHeld ?r1_2
  case h1_2 =>
    intro wS hSw
    have y0 : wS.cell? ⟨w.heap.size, 0, none⟩ = some (.slice (some ⟨g, 0, none⟩) n cap) := (b3.ext hSw (by omega)).at 0 _ rfl
    have y1 : wS.cell? ⟨w.heap.size, 1, none⟩ = some (.func (.func 78) #[] #[]) := (b3.ext hSw (by omega)).at 1 _ rfl
    clear hSw
    (try dsimp only at hSw)
    go_simp
    try with_reducible rfl
  case r1_2 =>
  simp only [Act.put, List.setIfInBounds_toArray, List.set_cons_zero, List.set_cons_succ]
  refine wpAnyH_take (i := 2) (oi := { dst := some 8, op := Go.Op.move (Go.Operand.tmp 1), type := 2, pos := "l06_center.go:30", after := #[], guard := none }) (v := ?v2_3) rfl (by kernel_rfl) (by kernel_rfl) (by kernel_rfl) (fun _ _ _ h => h) (Or.inl ⟨by rfl, ?h2_3⟩) hHeld ?r2_3
  case h2_3 =>
    intro wS hSw
    (try dsimp only at hSw)
    go_simp
    try with_reducible rfl
  case r2_3 =>
  simp only [Act.put, List.setIfInBounds_toArray, List.set_cons_zero, List.set_cons_succ]
  refine wpAnyH_take (i := 3) (oi := { dst := some 9, op := Go.Op.fieldAddr 103 (Go.Operand.tmp 3) 1, type := 0, pos := "l06_center.go:30", after := #[], guard := none }) (v := ?v3_4) rfl (by kernel_rfl) (by kernel_rfl) (by kernel_rfl) (fun _ _ _ h => h) (Or.inl ⟨by rfl, ?h3_4⟩) hHeld ?r3_4
  case h3_4 =>
    intro wS hSw
    (try dsimp only at hSw)
    go_simp
    try with_reducible rfl
  case r3_4 =>
  simp only [Act.put, List.setIfInBounds_toArray, List.set_cons_zero, List.set_cons_succ]
  refine wpAnyH_take (i := 4) (oi := { dst := some 10, op := Go.Op.load 101 (Go.Operand.tmp 9), type := 101, pos := "l06_center.go:30", after := #[{ on := 3, ground := Go.Ground.data }], guard := none }) (v := ?v4_5) rfl (by kernel_rfl) (by kernel_rfl) (by kernel_rfl) (fun _ _ _ h => h) (Or.inl ⟨by rfl, ?h4_5⟩) hHeld ?r4_5
  case h4_5 =>
    intro wS hSw
    have y0 : wS.cell? ⟨w.heap.size, 0, none⟩ = some (.slice (some ⟨g, 0, none⟩) n cap) := (b3.ext hSw (by omega)).at 0 _ rfl
    have y1 : wS.cell? ⟨w.heap.size, 1, none⟩ = some (.func (.func 78) #[] #[]) := (b3.ext hSw (by omega)).at 1 _ rfl
    clear hSw
    (try dsimp only at hSw)
    go_simp
    try with_reducible rfl
  case r4_5 =>
  simp only [Act.put, List.setIfInBounds_toArray, List.set_cons_zero, List.set_cons_succ]
  refine wpAnyH_take (i := 5) (oi := { dst := some 11, op := Go.Op.fieldAddr 103 (Go.Operand.tmp 3) 0, type := 0, pos := "l06_center.go:30", after := #[], guard := none }) (v := ?v5_6) rfl (by kernel_rfl) (by kernel_rfl) (by kernel_rfl) (fun _ _ _ h => h) (Or.inl ⟨by rfl, ?h5_6⟩) hHeld ?r5_6
  case h5_6 =>
    intro wS hSw
    (try dsimp only at hSw)
    go_simp
    try with_reducible rfl
  case r5_6 =>
  simp only [Act.put, List.setIfInBounds_toArray, List.set_cons_zero, List.set_cons_succ]
  refine wpAnyH_take (i := 6) (oi := { dst := some 12, op := Go.Op.load 25 (Go.Operand.tmp 11), type := 25, pos := "l06_center.go:30", after := #[{ on := 5, ground := Go.Ground.data }], guard := none }) (v := ?v6_7) rfl (by kernel_rfl) (by kernel_rfl) (by kernel_rfl) (fun _ _ _ h => h) (Or.inl ⟨by rfl, ?h6_7⟩) hHeld ?r6_7
  case h6_7 =>
    intro wS hSw
    have y0 : wS.cell? ⟨w.heap.size, 0, none⟩ = some (.slice (some ⟨g, 0, none⟩) n cap) := (b3.ext hSw (by omega)).at 0 _ rfl
    have y1 : wS.cell? ⟨w.heap.size, 1, none⟩ = some (.func (.func 78) #[] #[]) := (b3.ext hSw (by omega)).at 1 _ rfl
    clear hSw
    (try dsimp only at hSw)
    go_simp
    try with_reducible rfl
  case r6_7 =>
  simp only [Act.put, List.setIfInBounds_toArray, List.set_cons_zero, List.set_cons_succ]
  refine wpAnyH_take (i := 7) (oi := { dst := some 13, op := Go.Op.move (Go.Operand.tmp 1), type := 2, pos := "l06_center.go:30", after := #[], guard := none }) (v := ?v7_8) rfl (by kernel_rfl) (by kernel_rfl) (by kernel_rfl) (fun _ _ _ h => h) (Or.inl ⟨by rfl, ?h7_8⟩) hHeld ?r7_8
  case h7_8 =>
    intro wS hSw
    (try dsimp only at hSw)
    go_simp
    try with_reducible rfl
  case r7_8 =>
  simp only [Act.put, List.setIfInBounds_toArray, List.set_cons_zero, List.set_cons_succ]
  refine wpAnyH_take (i := 8) (oi := { dst := some 14, op := Go.Op.indexAddr 25 (Go.Operand.tmp 12) (Go.Operand.tmp 13), type := 0, pos := "l06_center.go:30", after := #[{ on := 6, ground := Go.Ground.data }, { on := 7, ground := Go.Ground.data }], guard := none }) (v := ?v8_9) rfl (by kernel_rfl) (by kernel_rfl) (by kernel_rfl) (fun _ _ _ h => h) (Or.inl ⟨by rfl, ?h8_9⟩) hHeld ?r8_9
  case h8_9 =>
    intro wS hSw
    (try dsimp only at hSw)
    go_simp
    try with_reducible rfl
  case r8_9 =>
  simp only [Act.put, List.setIfInBounds_toArray, List.set_cons_zero, List.set_cons_succ]
  refine wpAnyH_take (i := 10) (oi := { dst := some 16, op := Go.Op.move (Go.Operand.tmp 2), type := 2, pos := "l06_center.go:30", after := #[], guard := none }) (v := ?v10_10) rfl (by kernel_rfl) (by kernel_rfl) (by kernel_rfl) (fun _ _ _ h => h) (Or.inl ⟨by rfl, ?h10_10⟩) hHeld ?r10_10
  case h10_10 =>
    intro wS hSw
    (try dsimp only at hSw)
    go_simp
    try with_reducible rfl
  case r10_10 =>
  simp only [Act.put, List.setIfInBounds_toArray, List.set_cons_zero, List.set_cons_succ]
  refine wpAnyH_ready (rs := [9]) (by kernel_rfl) (by simp) ?_
  refine AllReadyH.cons (o := { dst := some 15, op := Go.Op.load 2 (Go.Operand.tmp 14), type := 2, pos := "l06_center.go:30", after := #[{ on := 8, ground := Go.Ground.data }], guard := none }) rfl (fun K hK => ?_) AllReadyH.nil
  have s0 : wD.cell? ⟨g, p, none⟩ = some (.int .i64 (f p)) := hSD.cell p hp
  go_simp
  refine hK.out _ _ hHeld (fun hHeld => ?_)
  clear hK K
  try simp only [Act.put, List.setIfInBounds_toArray, List.set_cons_zero, List.set_cons_succ]
  refine wpAnyH_ready (rs := [11]) (by kernel_rfl) (by simp) ?_
  refine AllReadyH.cons (o := { dst := some 17, op := Go.Op.call { callee := Go.Callee.value (Go.Operand.tmp 10), args := #[Go.Operand.tmp 15, Go.Operand.tmp 16], argTypes := #[2, 2] }, type := 2, pos := "l06_center.go:30", after := #[{ on := 4, ground := Go.Ground.data }, { on := 9, ground := Go.Ground.data }, { on := 10, ground := Go.Ground.data }], guard := none }) rfl (fun K hK => ?_) AllReadyH.nil
  go_simp
  go_at_call 78
  refine (plusNum (f p) x _ x1 x2).mono ?_
  rintro e w3 ⟨rfl, rfl⟩
  try go_wp2_with fail
  refine hK.out _ _ hHeld (fun hHeld => ?_)
  clear hK K
  try simp only [Act.put, List.setIfInBounds_toArray, List.set_cons_zero, List.set_cons_succ]
  refine wpAnyH_take (i := 12) (oi := { dst := some 18, op := Go.Op.indexAddr 25 (Go.Operand.tmp 7) (Go.Operand.tmp 8), type := 0, pos := "l06_center.go:30", after := #[{ on := 1, ground := Go.Ground.data }, { on := 2, ground := Go.Ground.data }, { on := 0, ground := Go.Ground.phase }, { on := 1, ground := Go.Ground.phase }, { on := 2, ground := Go.Ground.phase }, { on := 3, ground := Go.Ground.phase }, { on := 4, ground := Go.Ground.phase }, { on := 5, ground := Go.Ground.phase }, { on := 6, ground := Go.Ground.phase }, { on := 7, ground := Go.Ground.phase }, { on := 8, ground := Go.Ground.phase }, { on := 9, ground := Go.Ground.phase }, { on := 10, ground := Go.Ground.phase }, { on := 11, ground := Go.Ground.phase }], guard := none }) (v := ?v12_11) rfl (by kernel_rfl) (by kernel_rfl) (by kernel_rfl) (fun _ _ _ h => h) (Or.inl ⟨by rfl, ?h12_11⟩) hHeld ?r12_11
  case h12_11 =>
    intro wS hSw
    (try dsimp only at hSw)
    go_simp
    try with_reducible rfl
  case r12_11 =>
  simp only [Act.put, List.setIfInBounds_toArray, List.set_cons_zero, List.set_cons_succ]
  refine wpAnyH_ready (rs := [13]) (by kernel_rfl) (by simp) ?_
  refine AllReadyH.cons (o := { dst := none, op := Go.Op.store 2 (Go.Operand.tmp 18) (Go.Operand.tmp 17), type := 0, pos := "l06_center.go:30", after := #[{ on := 12, ground := Go.Ground.data }, { on := 11, ground := Go.Ground.data }, { on := 11, ground := Go.Ground.chain }, { on := 0, ground := Go.Ground.phase }, { on := 1, ground := Go.Ground.phase }, { on := 2, ground := Go.Ground.phase }, { on := 3, ground := Go.Ground.phase }, { on := 4, ground := Go.Ground.phase }, { on := 5, ground := Go.Ground.phase }, { on := 6, ground := Go.Ground.phase }, { on := 7, ground := Go.Ground.phase }, { on := 8, ground := Go.Ground.phase }, { on := 9, ground := Go.Ground.phase }, { on := 10, ground := Go.Ground.phase }, { on := 11, ground := Go.Ground.phase }], guard := none }) rfl (fun K hK => ?_) AllReadyH.nil
  have s0 : w3.cell? ⟨g, p, none⟩ = some (.int .i64 (f p)) := hSD.cell p hp
  have fz := hSD.soft
  have lg := hSD.lt
  go_simp
  refine hK.out _ _ (hHeld.setCell ⟨g, p, none⟩ _ rfl) (fun hHeld => ?_)
  clear hK K
  try simp only [Act.put, List.setIfInBounds_toArray, List.set_cons_zero, List.set_cons_succ]
  refine wpAnyH_done (by kernel_rfl) ?_ _
  refine NoPanic.normal ?_
  have HS9 := hide (hSD.set p hp (f p + x))
  have HE9 := hide ((ext_of_below HB0 (fun c => c = g)).trans hHeld)
  clear hHeld hSD
  go_wp2_with fail
  refine bodyPost_end (v := .tuple #[]) (by simp [results, Try.results81, go_sem]) rfl ?_
  exact ⟨rfl, unhide HS9, unhide HE9⟩

end Go.Proofs.Ytjofcmdlcoganaa

namespace Go.Proofs.Ytjofcmdlcoganaa
open Go.RowKit

set_option maxHeartbeats 400000 in
theorem implNear (s n : Int) (w : World) (h1 : 1 ≤ n) (h2 : n ≤ 1000) (h3 : -1000 * n ≤ s) (h4 : s ≤ 1000 * n) :
    Calls Try.prog 95 #[.int .i64 s, .int .i64 n] w fun e w' => e = .returned (.int .i64 (mean s n)) ∧ w' = w := by
  obtain ⟨b1, b2⟩ := near_bd s n h1 h3 h4
  have HM := hide (near_eq s n h1)
  have hd : (2 * n == 0) = false := by rw [beq_eq_false_iff_ne]; omega
  go_enter Try.func95, Try.ntmps95
  go_wp2
  go_ret
  refine ⟨?_, rfl⟩
  rw [← unhide HM]
  rfl

set_option maxHeartbeats 400000 in
theorem modelRound (s n : Int) (w : World) (h1 : 1 ≤ n) (h2 : n ≤ 1000) (h3 : -1000 * n ≤ s) (h4 : s ≤ 1000 * n) :
    Calls Try.prog 99 #[.int .i64 s, .int .i64 n] w fun e w' => e = .returned (.int .i64 (mean s n)) ∧ w' = w := by
  have hd : (2 * n == 0) = false := by rw [beq_eq_false_iff_ne]; omega
  by_cases hx : 0 ≤ 2 * s + n
  · have hm : 0 ≤ (2 * s + n) % (2 * n) := Int.emod_nonneg _ (by omega)
    go_enter Try.func99, Try.ntmps99
    go_wp2
    go_ret
    exact ⟨rfl, rfl⟩
  · obtain ⟨t1, t2⟩ := tdiv_neg_bd (2 * s + n) (2 * n) (by omega) (by omega)
    obtain ⟨r1, r2⟩ := round_neg (2 * s + n) (2 * n) (by omega) (by omega)
    by_cases hr : (2 * s + n).tmod (2 * n) < 0
    · have HM := hide (r1 hr)
      clear r1 r2
      go_enter Try.func99, Try.ntmps99
      go_wp2
      go_ret
      refine ⟨?_, rfl⟩
      unfold mean
      rw [← unhide HM]
      rfl
    · have HM := hide (r2 hr)
      clear r1 r2
      go_enter Try.func99, Try.ntmps99
      go_wp2
      go_ret
      refine ⟨?_, rfl⟩
      unfold mean
      rw [← unhide HM]
      rfl

theorem implMeanFault_n (ao : Option Addr) (len cap : Nat) (n : Int) (w : World) (h : n < 1 ∨ 1000 < n) :
    Calls Try.prog 94 #[.slice ao len cap, .int .i64 n] w fun e w' => e = .returned (.int .i64 3) ∧ w' = w := by
  by_cases h1 : n < 1
  · clear h
    go_enter Try.func94, Try.ntmps94
    go_wp2
    go_ret
    exact ⟨rfl, rfl⟩
  · have h2 : 1000 < n := by omega
    have hd : decide (1000 < n) = true := by simp; omega
    clear h
    go_enter Try.func94, Try.ntmps94
    go_wp2
    go_ret
    exact ⟨rfl, rfl⟩

theorem implMeanFault_len (ao : Option Addr) (len cap : Nat) (n : Int) (w : World) (h1 : 1 ≤ n) (h2 : n ≤ 1000) (hl : len ≠ 3) :
    Calls Try.prog 94 #[.slice ao len cap, .int .i64 n] w fun e w' => e = .returned (.int .i64 1) ∧ w' = w := by
  have hd : decide (1000 < n) = false := by simp; omega
  have h3 : ((len : Int) != 3) = true := by rw [bne_iff_ne]; omega
  go_enter Try.func94, Try.ntmps94
  go_wp2
  go_ret
  exact ⟨rfl, rfl⟩

set_option maxHeartbeats 400000 in
theorem implMeanFault_three (b off cap : Nat) (zs : List Int) (n : Int) (w : World) (h1 : 1 ≤ n) (h2 : n ≤ 1000) (h : zs.length = 3) (hc : ∀ j, j < 3 → w.cell? ⟨b, off + j, none⟩ = some (.int .i64 (zs.getD j 0))) :
    Calls Try.prog 94 #[.slice (some ⟨b, off, none⟩) 3 cap, .int .i64 n] w fun e w' => e = .returned (.int .i64 (meanFault zs n)) ∧ w' = w := by
  have hd : decide (1000 < n) = false := by simp; omega
  go_enter Try.func94, Try.ntmps94
  go_wp2
  go_loop [18] (fun i => ∃ k : Nat, k ≤ 3 ∧ i = .int .i64 k ∧ ∀ j, j < k → sumB n (zs.getD j 0) = true) (fun i => 3 - (intOf i).toNat)
  case atStart => exact ⟨0, Nat.zero_le _, rfl, fun j hj => by omega⟩
  case round =>
    obtain ⟨k, hk, rfl, hg⟩ := hrel
    have HG := hide hg
    have HL := hide h
    clear hg h
    by_cases hlt : k < 3
    · have hcx : w.cell? ⟨b, off + k, none⟩ = some (.int .i64 (zs.getD k 0)) := hc k hlt
      obtain ⟨z, hz⟩ : ∃ z, z = zs.getD k 0 := ⟨_, rfl⟩
      rw [← hz] at hcx
      have HZ := hide hz
      clear hz hc
      cases hp : sumB n z with
      | true =>
        obtain ⟨hb1, hb2⟩ := sumB_true hp
        have hd2 : decide (1000 * n < z) = false := by simp; omega
        have HP := hide hp
        clear hp
        go_wp2
        go_round
        case rel =>
          refine ⟨k + 1, by omega, by go_num, fun j hj => ?_⟩
          by_cases hjk : j < k
          · exact unhide HG j hjk
          · rw [show j = k by omega, ← unhide HZ]; exact unhide HP
        case measure => simp [intOf]; omega
      | false =>
        have HV := hide (meanFault_bad (unhide HL) k hlt (n := n) (by rw [← unhide HZ]; exact hp))
        have hb := sumB_false hp
        clear hp
        rcases hb with hb | hb
        · go_wp2
          go_ret
          exact ⟨by rw [unhide HV]; rfl, rfl⟩
        · have hb1 : -1000 * n ≤ z := by omega
          have hd2 : decide (1000 * n < z) = true := by simp; omega
          go_wp2
          go_ret
          exact ⟨by rw [unhide HV]; rfl, rfl⟩
    · have HV := hide (meanFault_ok h1 h2 (unhide HL) (fun j hj => unhide HG j (by omega)))
      go_wp2
      go_ret
      exact ⟨by rw [unhide HV]; rfl, rfl⟩

theorem implMeanFault (v : Value) (zs : List Int) (n : Int) (w : World) (h : IsInts w v zs) :
    Calls Try.prog 94 #[v, .int .i64 n] w fun e w' => e = .returned (.int .i64 (meanFault zs n)) ∧ w' = w := by
  obtain ⟨ao, cap, rfl, hwf, hc⟩ := h
  by_cases hn : n < 1 ∨ 1000 < n
  · rw [meanFault_n hn]
    exact implMeanFault_n ao zs.length cap n w hn
  · by_cases h3 : zs.length = 3
    · obtain ⟨b, off, rfl, hc1⟩ := hc (by omega)
      rw [h3] at hc1 ⊢
      exact implMeanFault_three b off cap zs n w (by omega) (by omega) h3 hc1
    · rw [meanFault_len (by omega) (by omega) h3]
      exact implMeanFault_len ao zs.length cap n w (by omega) (by omega) h3

end Go.Proofs.Ytjofcmdlcoganaa

namespace Go.Proofs.Ytjofcmdlcoganaa
open Go.RowKit

set_option maxHeartbeats 400000 in
theorem listOf3 (x y z : Int) (w : World) :
    Calls Try.prog 83 #[arr3 x y z] w fun e w' => e = .returned (.slice (some ⟨w.heap.size + 1, 0, none⟩) 3 3) ∧
      (w.alloc (.cells #[.int .i64 x, .int .i64 y, .int .i64 z] 100)).alloc (.cells #[.int .i64 x, .int .i64 y, .int .i64 z] 2) = w' := by
  have hmk : ∀ w : World, (Instr.makeSlice 25 (.int .i64 3) (.int .i64 3)).run Try.prog w = .ok (.slice (some ⟨w.heap.size, 0, none⟩) 3 3) (w.alloc (.cells #[.int .i64 0, .int .i64 0, .int .i64 0] 2)) := fun _ => by kernel_rfl
  have i0 : ∀ w : World, (Instr.index 100 (.agg #[.int .i64 x, .int .i64 y, .int .i64 z]) (.int .i64 0)).run Try.prog w = .ok (.int .i64 x) w := fun _ => by kernel_rfl
  have i1 : ∀ w : World, (Instr.index 100 (.agg #[.int .i64 x, .int .i64 y, .int .i64 z]) (.int .i64 1)).run Try.prog w = .ok (.int .i64 y) w := fun _ => by kernel_rfl
  have i2 : ∀ w : World, (Instr.index 100 (.agg #[.int .i64 x, .int .i64 y, .int .i64 z]) (.int .i64 2)).run Try.prog w = .ok (.int .i64 z) w := fun _ => by kernel_rfl
  simp only [arr3]
  go_enter Try.func83, Try.ntmps83
  go_wp2
  refine wp_loop_rounds 4 ?_
  rw [rounds_succ]
  go_wp2
  rw [rounds_succ]
  go_wp2
  rw [rounds_succ]
  go_wp2
  rw [rounds_succ]
  go_wp2
  go_ret
  exact ⟨rfl, rfl⟩

end Go.Proofs.Ytjofcmdlcoganaa

namespace Go.Proofs.Ytjofcmdlcoganaa
open Go.RowKit

theorem listOwn (x y z : Int) (w : World) (hw : ∀ a ∈ [x, y, z], (Lit.int .i64 a).wf = true) :
    Calls Try.prog 83 #[arr3 x y z] w fun e w' => ∃ g, e = .returned (.slice (some ⟨g, 0, none⟩) 3 3) ∧ (Lay.sl Lay.int).OwnIn w' [.slice (some ⟨g, 0, none⟩) 3 3] [x, y, z] w.heap.size w'.heap.size ∧ Below w.heap.size w w' := by
  refine (listOf3 x y z w).mono ?_
  rintro e w' ⟨rfl, rfl⟩
  refine ⟨w.heap.size + 1, rfl, ?_, ((Below.refl _ _).alloc (Nat.le_refl _) _).alloc (by simp) _⟩
  refine Lay.ownInts (zs := [x, y, z]) (base := w.heap.size) (T := 2) hw (by simp) ?_
  exact own_new3 (W := w.alloc _) (by simp) (by simp)

end Go.Proofs.Ytjofcmdlcoganaa

namespace Go.Proofs.Ytjofcmdlcoganaa
open Go.RowKit


set_option maxHeartbeats 400000 in
theorem implMean_code (v : Value) (zs : List Int) (n : Int) (w : World) (h : IsInts w v zs) (hf : meanFault zs n ≠ 0) :
    Calls Try.prog 82 #[v, .int .i64 n] w fun e w' => e = .returned (intsRes (meanFault zs n) (.slice none 0 0)) ∧ Below w.heap.size w w' := by
  have hne : (meanFault zs n != 0) = true := by rw [bne_iff_ne]; exact hf
  go_enter Try.func82, Try.ntmps82
  go_wp2_with fail
  refine (implMeanFault v zs n _ (h.later ((Below.refl _ _).alloc (Nat.le_refl _) _))).mono ?_
  rintro e w1 ⟨rfl, rfl⟩
  go_wp2_with fail
  refine bodyPost_ret (v := intsRes (meanFault zs n) (.slice none 0 0)) (by simp [results, Try.results82, go_sem, intsRes]) rfl ⟨rfl, ?_⟩
  exact (Below.refl _ _).alloc (Nat.le_refl _) _

set_option maxHeartbeats 1000000 in
theorem implMean_three (b off cap : Nat) (x y z n : Int) (w : World) (hbl : b < w.heap.size) (c0 : w.cell? ⟨b, off, none⟩ = some (.int .i64 x)) (c1 : w.cell? ⟨b, off + 1, none⟩ = some (.int .i64 y)) (c2 : w.cell? ⟨b, off + 2, none⟩ = some (.int .i64 z))
    (h : IsInts w (.slice (some ⟨b, off, none⟩) 3 cap) [x, y, z]) (hf : meanFault [x, y, z] n = 0) (h1 : 1 ≤ n) (h2 : n ≤ 1000) (x1 : -1000 * n ≤ x) (x2 : x ≤ 1000 * n) (y1 : -1000 * n ≤ y) (y2 : y ≤ 1000 * n) (z1 : -1000 * n ≤ z) (z2 : z ≤ 1000 * n) :
    Calls Try.prog 82 #[.slice (some ⟨b, off, none⟩) 3 cap, .int .i64 n] w fun e w' => ∃ v, e = .returned (intsRes 0 v) ∧
      w'.ownsRow w.heap.size 2 1 v 3 ([mean x n, mean y n, mean z n].map (Value.int .i64)) ∧ Below w.heap.size w w' := by
  go_enter Try.func82, Try.ntmps82
  go_wp2_with fail
  refine (implMeanFault _ [x, y, z] n _ (h.later ((Below.refl _ _).alloc (Nat.le_refl _) _))).mono ?_
  rintro e w1 ⟨rfl, rfl⟩
  rw [hf]
  clear h hf
  go_wp2_with fail
  refine wp_loop_rounds 4 ?_
  rw [rounds_succ]
  go_wp2_with fail
  refine (implNear x n _ h1 h2 x1 x2).mono ?_
  rintro e w1 ⟨rfl, rfl⟩
  go_wp2_with fail
  rw [rounds_succ]
  go_wp2_with fail
  refine (implNear y n _ h1 h2 y1 y2).mono ?_
  rintro e w1 ⟨rfl, rfl⟩
  go_wp2_with fail
  rw [rounds_succ]
  go_wp2_with fail
  refine (implNear z n _ h1 h2 z1 z2).mono ?_
  rintro e w1 ⟨rfl, rfl⟩
  go_wp2_with fail
  rw [rounds_succ]
  go_wp2_with fail
  have e := listOf3 (mean x n) (mean y n) (mean z n) ((w.alloc (.cells #[.int .i64 0, .slice none 0 0] 37)).alloc (.cells #[.int .i64 (mean x n), .int .i64 (mean y n), .int .i64 (mean z n)] 100))
  simp only [arr3] at e
  refine e.mono ?_
  clear e
  rintro e w1 ⟨rfl, rfl⟩
  go_wp2_with fail
  refine bodyPost_ret (v := intsRes 0 (.slice (some ⟨w.heap.size + 1 + 1 + 1, 0, none⟩) 3 3)) (by simp [results, Try.results82, go_sem, intsRes]) rfl ⟨_, rfl, ?_, ?_⟩
  · exact own_new3 (by simp; omega) (by simp)
  · exact ((((Below.refl w.heap.size w).alloc (Nat.le_refl _) _).alloc (by simp) _).alloc (by simp; omega) _).alloc (by simp; omega) _

/-- MeanOf of the program. -/
theorem implMean (v : Value) (zs : List Int) (n : Int) (w : World) (h : IsInts w v zs) :
    Calls Try.prog 82 #[v, .int .i64 n] w fun e w' => ∃ r, e = .returned (intsRes (meanFault zs n) r) ∧
      w'.ownsRow w.heap.size 2 1 r (meanList zs n).length ((meanList zs n).map (Value.int .i64)) ∧ Below w.heap.size w w' := by
  by_cases hf : meanFault zs n = 0
  · obtain ⟨⟨h1, h2⟩, x, y, z, rfl, ⟨x1, x2⟩, ⟨y1, y2⟩, ⟨z1, z2⟩⟩ := meanFault_zero hf
    have e : meanList [x, y, z] n = [mean x n, mean y n, mean z n] := by simp [meanList, hf]
    rw [e, hf]
    obtain ⟨b, off, cap, x', y', z', he, rfl, hbl, c0, c1, c2⟩ := h.three rfl
    simp only [List.cons.injEq, and_true] at he
    obtain ⟨rfl, rfl, rfl⟩ := he
    exact implMean_three b off cap x y z n w hbl c0 c1 c2 h hf h1 h2 x1 x2 y1 y2 z1 z2
  · have e : meanList zs n = [] := by simp [meanList, hf]
    rw [e]
    refine (implMean_code v zs n w h hf).mono ?_
    rintro e w' ⟨rfl, hb⟩
    exact ⟨_, rfl, World.ownsRow_nil _ _ _ _, hb⟩

theorem meanList_bd {zs : List Int} {n : Int} : ∀ m ∈ meanList zs n, (Lit.int .i64 m).wf = true := by
  intro m hm
  unfold meanList at hm
  split at hm
  · next hf =>
    obtain ⟨⟨h1, h2⟩, x, y, z, rfl, ⟨x1, x2⟩, ⟨y1, y2⟩, ⟨z1, z2⟩⟩ := meanFault_zero hf
    have b1 := mean_bd x n h1 x1 x2
    have b2 := mean_bd y n h1 y1 y2
    have b3 := mean_bd z n h1 z1 z2
    simp at hm
    rcases hm with rfl | rfl | rfl <;> exact wf_of_bd (by omega)
  · simp at hm
theorem meanList_len {zs : List Int} {n : Int} : (meanList zs n).length ≤ 3 := by
  unfold meanList
  split <;> simp

end Go.Proofs.Ytjofcmdlcoganaa
