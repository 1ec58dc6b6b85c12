/-
  Texts of this proof in one: ImplSums, Mean, ListC, MeanOf, ImplMoved, ImplCost6.
  Their conditions stand in their theorems.
-/
import Derived.Test.YtjofcmdlcoganaaTq05
import Derived.Test.YtjofcmdlcoganaaTq02
import Derived.Deep.RegionHeld3
import Derived.Deep.CutRange
import Derived.WalkKit
import Derived.Test.YtjofcmdlcoganaaChecked
import Derived.Test.YtjofcmdlcoganaaTq01
import Derived.Test.YtjofcmdlcoganaaTq04

namespace Go.Proofs.Ytjofcmdlcoganaa
open Go.RowKit

theorem infoVec : (Try.prog.info? 100).map (fun i => (i.zero, i.size, i.bytes)) = some (some (.agg #[.int .i64 0, .int .i64 0, .int .i64 0]), 3, 24) := by kernel_rfl
theorem made3 (n : Nat) : (madeCells #[.int .i64 0, .int .i64 0, .int .i64 0] (n * 3)).toList = List.replicate (n * 3) (Value.int .i64 0) := by
  apply List.ext_getElem?
  intro i
  by_cases hi : i < n * 3
  · have hm : i % 3 < 3 := Nat.mod_lt _ (by omega)
    rcases (show i % 3 = 0 ∨ i % 3 = 1 ∨ i % 3 = 2 by omega) with h | h | h <;> simp [madeCells, hi, h]
  · rw [List.getElem?_eq_none (by simp [madeCells]; omega), List.getElem?_eq_none (by simp; omega)]

set_option maxRecDepth 10000 in
set_option maxHeartbeats 1000000 in
theorem newSumsV (n : Nat) (hn : n ≤ 6) (w : World) :
    Calls Try.prog 75 #[.int .i64 n, .func (.func 76) #[] #[]] w fun e w' => ∃ g, e = .returned (.agg #[.slice (some ⟨g, 0, none⟩) n n, .func (.func 76) #[] #[]]) ∧ w.heap.size ≤ g ∧ Sums3 w' g n (fun _ _ => 0) ∧ Below w.heap.size w w' := by
  obtain ⟨i0, hi, hz0, hz1, hz2⟩ := info_parts infoVec
  have HB0 : Below w.heap.size w (w.alloc (.cells #[.slice none 0 0, .nilFunc] 97)) := (Below.refl _ _).alloc (Nat.le_refl _) _
  have bR : Box w.heap.size #[.slice none 0 0, .nilFunc] 97 (w.alloc (.cells #[.slice none 0 0, .nilFunc] 97)) w.heap.size := newBox (Nat.le_refl _)
  have hs0 : (w.alloc (.cells #[.slice none 0 0, .nilFunc] 97)).heap.size = w.heap.size + 1 := by simp
  go_enter Try.func75, Try.ntmps75
  go_upto_region 1 with fail
  generalize w.alloc (.cells #[.slice none 0 0, .nilFunc] 97) = W0 at *
  go_wp2_with (at_make; refine wpList_make_full _ rfl _ _ 94 rfl W0.heap.size 100 i0 _ 3 Try.underlying94 hi hz0 hz1 _ _ _ _ n rfl rfl rfl rfl ?c1 ?c2 ?c3 ?_)
  case c1 => rw [hz2]; omega
  case c2 => unfold maxLen; omega
  case c3 => exact Nat.le_refl _
  intro w2 hown1 hgrow1
  have hB1 : Below W0.heap.size W0 w2 := (Below.refl _ _).grown hgrow1 (Nat.le_refl _) (by simp)
  rw [made3] at hown1
  have hS := Sums3.of_row hown1
  replace bR := bR.keep hB1
  have z0 : w2.cell? ⟨w.heap.size, 0, none⟩ = some (.slice none 0 0) := bR.at 0 _ rfl
  have z1 : w2.cell? ⟨w.heap.size, 1, none⟩ = some .nilFunc := bR.at 1 _ rfl
  have f0 := bR.soft 0
  have f1 := bR.soft 1
  have l0 := bR.lt
  have HB := hide (HB0.trans (hB1.mono HB0.size))
  have HS := hide hS
  have hsf : ∀ (W : World) (a : Addr), (store a (.func (.func 76) #[] #[])).run Try.prog W = stored Try.prog W a (.func (.func 76) #[] #[]) .plain := fun W a => run_store _ _ _ _ _ rfl
  clear hgrow1 hi hz0 hz1 hz2 hown1 hB1 HB0 bR hS
  go_wp2_with fail
  refine bodyPost_ret (v := .agg #[.slice (some ⟨w.heap.size + 1, 0, none⟩) n n, .func (.func 76) #[] #[]]) (by simp [results, Try.results75, go_sem, z0, z1]) rfl ?_
  refine ⟨w.heap.size + 1, rfl, by omega, ?_, ((unhide HB).setCell (by simp) _).setCell (by simp) _⟩
  have hE : Ext (fun c => c = w.heap.size) w2 ((w2.setCell ⟨w.heap.size, 0, none⟩ (.slice (some ⟨w.heap.size + 1, 0, none⟩) n n)).setCell ⟨w.heap.size, 1, none⟩ (.func (.func 76) #[] #[])) := ((Ext.refl (fun c => c = w.heap.size) _).setCell ⟨w.heap.size, 0, none⟩ _ rfl).setCell ⟨w.heap.size, 1, none⟩ _ rfl
  exact (unhide HS).ext hE (by omega)

set_option maxRecDepth 10000 in
set_option maxHeartbeats 1000000 in
theorem newSumsN (n : Nat) (hn : n ≤ 6) (w : World) :
    Calls Try.prog 77 #[.int .i64 n, .func (.func 78) #[] #[]] w fun e w' => ∃ g, e = .returned (.agg #[.slice (some ⟨g, 0, none⟩) n n, .func (.func 78) #[] #[]]) ∧ w.heap.size ≤ g ∧ Sums1 w' g n (fun _ => 0) ∧ Below w.heap.size w w' := by
  obtain ⟨i0, hi, hz0, hz1, hz2⟩ := info_parts info2
  have HB0 : Below w.heap.size w (w.alloc (.cells #[.slice none 0 0, .nilFunc] 103)) := (Below.refl _ _).alloc (Nat.le_refl _) _
  have bR : Box w.heap.size #[.slice none 0 0, .nilFunc] 103 (w.alloc (.cells #[.slice none 0 0, .nilFunc] 103)) w.heap.size := newBox (Nat.le_refl _)
  have hs0 : (w.alloc (.cells #[.slice none 0 0, .nilFunc] 103)).heap.size = w.heap.size + 1 := by simp
  go_enter Try.func77, Try.ntmps77
  go_upto_region 1 with fail
  generalize w.alloc (.cells #[.slice none 0 0, .nilFunc] 103) = W0 at *
  go_wp2_with (at_make; refine wpList_make_full _ rfl _ _ 25 rfl W0.heap.size 2 i0 _ 1 Try.underlying25 hi hz0 hz1 _ _ _ _ n rfl rfl rfl rfl ?c1 ?c2 ?c3 ?_)
  case c1 => rw [hz2]; omega
  case c2 => unfold maxLen; omega
  case c3 => exact Nat.le_refl _
  intro w2 hown1 hgrow1
  have hB1 : Below W0.heap.size W0 w2 := (Below.refl _ _).grown hgrow1 (Nat.le_refl _) (by simp)
  rw [toList_madeCells_one] at hown1
  have hS := Sums1.of_row hown1
  replace bR := bR.keep hB1
  have z0 : w2.cell? ⟨w.heap.size, 0, none⟩ = some (.slice none 0 0) := bR.at 0 _ rfl
  have z1 : w2.cell? ⟨w.heap.size, 1, none⟩ = some .nilFunc := bR.at 1 _ rfl
  have f0 := bR.soft 0
  have f1 := bR.soft 1
  have l0 := bR.lt
  have HB := hide (HB0.trans (hB1.mono HB0.size))
  have HS := hide hS
  have hsf : ∀ (W : World) (a : Addr), (store a (.func (.func 78) #[] #[])).run Try.prog W = stored Try.prog W a (.func (.func 78) #[] #[]) .plain := fun W a => run_store _ _ _ _ _ rfl
  clear hgrow1 hi hz0 hz1 hz2 hown1 hB1 HB0 bR hS
  go_wp2_with fail
  refine bodyPost_ret (v := .agg #[.slice (some ⟨w.heap.size + 1, 0, none⟩) n n, .func (.func 78) #[] #[]]) (by simp [results, Try.results77, go_sem, z0, z1]) rfl ?_
  refine ⟨w.heap.size + 1, rfl, by omega, ?_, ((unhide HB).setCell (by simp) _).setCell (by simp) _⟩
  have hE : Ext (fun c => c = w.heap.size) w2 ((w2.setCell ⟨w.heap.size, 0, none⟩ (.slice (some ⟨w.heap.size + 1, 0, none⟩) n n)).setCell ⟨w.heap.size, 1, none⟩ (.func (.func 78) #[] #[])) := ((Ext.refl (fun c => c = w.heap.size) _).setCell ⟨w.heap.size, 0, none⟩ _ rfl).setCell ⟨w.heap.size, 1, none⟩ _ rfl
  exact (unhide HS).ext hE (by omega)

set_option maxRecDepth 100000 in
set_option maxHeartbeats 2000000 in
theorem addSumV (g n cap p : Nat) (f : Nat → Nat → Int) (x y z : Int) (w : World) (hS : Sums3 w g n f) (hp : p < n) (x1 : -1000000 ≤ f p 0 + x) (x2 : f p 0 + x ≤ 1000000) (y1 : -1000000 ≤ f p 1 + y) (y2 : f p 1 + y ≤ 1000000) (z1 : -1000000 ≤ f p 2 + z) (z2 : f p 2 + z ≤ 1000000) :
    Calls Try.prog 80 #[.agg #[.slice (some ⟨g, 0, none⟩) n cap, .func (.func 76) #[] #[]], .int .i64 p, .agg #[.int .i64 x, .int .i64 y, .int .i64 z]] w fun e w' => e = .returned (.tuple #[]) ∧ Sums3 w' g n (upd3 f p (f p 0 + x) (f p 1 + y) (f p 2 + z)) ∧ Ext (fun c => c = g) w w' := by
  have hg := hS.lt
  have HB0 : Below w.heap.size w ((w.alloc (.cells #[.slice (some ⟨g, 0, none⟩) n cap, .func (.func 76) #[] #[]] 97)).alloc (.cells #[.int .i64 x, .int .i64 y, .int .i64 z] 100)) := ((Below.refl _ _).alloc (Nat.le_refl _) _).alloc (by simp) _
  have b3 : Box w.heap.size #[.slice (some ⟨g, 0, none⟩) n cap, .func (.func 76) #[] #[]] 97 ((w.alloc (.cells #[.slice (some ⟨g, 0, none⟩) n cap, .func (.func 76) #[] #[]] 97)).alloc (.cells #[.int .i64 x, .int .i64 y, .int .i64 z] 100)) w.heap.size := (newBox (Nat.le_refl _)).grow _
  have b5 : Box w.heap.size #[.int .i64 x, .int .i64 y, .int .i64 z] 100 ((w.alloc (.cells #[.slice (some ⟨g, 0, none⟩) n cap, .func (.func 76) #[] #[]] 97)).alloc (.cells #[.int .i64 x, .int .i64 y, .int .i64 z] 100)) (w.heap.size + 1) := newBoxAt (by omega) (by simp)
  have hS0 := hS.later HB0
  have i1 : (0 : Int) ≤ (p : Int) := by omega
  have i2 : (p : Int) < (n : Int) := by omega
  clear hS
  go_enter Try.func80, Try.ntmps80
  go_upto_region 1 with fail
  generalize (w.alloc (.cells #[.slice (some ⟨g, 0, none⟩) n cap, .func (.func 76) #[] #[]] 97)).alloc (.cells #[.int .i64 x, .int .i64 y, .int .i64 z] 100) = W0 at *
  have hSD : Sums3 W0.drew g n f := hS0.drew
  clear hS0
  refine wp_region_noPanic ?_
  refine wp_region_held_drew (S := fun w' => Ext (fun c => c = g) W0 w') (by kernel_rfl) (Ext.refl _ _).drewX (fun hHeld => ?_)
  generalize W0.drew = wD at hHeld hSD ⊢
  refine wpAnyH_take (i := 0) (oi := { dst := some 6, op := Go.Op.fieldAddr 97 (Go.Operand.tmp 3) 0, type := 0, pos := "l06_center.go:30", after := #[], guard := none }) (v := ?v0_1) rfl (by kernel_rfl) (by kernel_rfl) (by kernel_rfl) (fun _ _ _ h => h) (Or.inl ⟨by rfl, ?h0_1⟩) hHeld ?r0_1
  case h0_1 =>
    intro wS hSw
    (try dsimp only at hSw)
    go_simp
    try with_reducible rfl
  case r0_1 =>
  simp only [Act.put, List.setIfInBounds_toArray, List.set_cons_zero, List.set_cons_succ]
  refine wpAnyH_take (i := 1) (oi := { dst := some 7, op := Go.Op.load 94 (Go.Operand.tmp 6), type := 94, pos := "l06_center.go:30", after := #[{ on := 0, ground := Go.Ground.data }], guard := none }) (v := ?v1_2) rfl (by kernel_rfl) (by kernel_rfl) (by kernel_rfl) (fun _ _ _ h => h) (Or.inl ⟨by rfl, ?h1_2⟩) hHeld ?r1_2
  case h1_2 =>
    intro wS hSw
    have y0 : wS.cell? ⟨w.heap.size, 0, none⟩ = some (.slice (some ⟨g, 0, none⟩) n cap) := (b3.ext hSw (by omega)).at 0 _ rfl
    have y1 : wS.cell? ⟨w.heap.size, 1, none⟩ = some (.func (.func 76) #[] #[]) := (b3.ext hSw (by omega)).at 1 _ rfl
    have y2 : wS.cell? ⟨w.heap.size + 1, 0, none⟩ = some (.int .i64 x) := (b5.ext hSw (by omega)).at 0 _ rfl
    have y3 : wS.cell? ⟨w.heap.size + 1, 1, none⟩ = some (.int .i64 y) := (b5.ext hSw (by omega)).at 1 _ rfl
    have y4 : wS.cell? ⟨w.heap.size + 1, 2, none⟩ = some (.int .i64 z) := (b5.ext hSw (by omega)).at 2 _ rfl
    clear hSw
    (try dsimp only at hSw)
    go_simp
    try with_reducible rfl
  case r1_2 =>
  simp only [Act.put, List.setIfInBounds_toArray, List.set_cons_zero, List.set_cons_succ]
  refine wpAnyH_take (i := 2) (oi := { dst := some 8, op := Go.Op.move (Go.Operand.tmp 1), type := 2, pos := "l06_center.go:30", after := #[], guard := none }) (v := ?v2_3) rfl (by kernel_rfl) (by kernel_rfl) (by kernel_rfl) (fun _ _ _ h => h) (Or.inl ⟨by rfl, ?h2_3⟩) hHeld ?r2_3
  case h2_3 =>
    intro wS hSw
    (try dsimp only at hSw)
    go_simp
    try with_reducible rfl
  case r2_3 =>
  simp only [Act.put, List.setIfInBounds_toArray, List.set_cons_zero, List.set_cons_succ]
  refine wpAnyH_take (i := 3) (oi := { dst := some 9, op := Go.Op.fieldAddr 97 (Go.Operand.tmp 3) 1, type := 0, pos := "l06_center.go:30", after := #[], guard := none }) (v := ?v3_4) rfl (by kernel_rfl) (by kernel_rfl) (by kernel_rfl) (fun _ _ _ h => h) (Or.inl ⟨by rfl, ?h3_4⟩) hHeld ?r3_4
  case h3_4 =>
    intro wS hSw
    (try dsimp only at hSw)
    go_simp
    try with_reducible rfl
  case r3_4 =>
  simp only [Act.put, List.setIfInBounds_toArray, List.set_cons_zero, List.set_cons_succ]
  refine wpAnyH_take (i := 4) (oi := { dst := some 10, op := Go.Op.load 95 (Go.Operand.tmp 9), type := 95, pos := "l06_center.go:30", after := #[{ on := 3, ground := Go.Ground.data }], guard := none }) (v := ?v4_5) rfl (by kernel_rfl) (by kernel_rfl) (by kernel_rfl) (fun _ _ _ h => h) (Or.inl ⟨by rfl, ?h4_5⟩) hHeld ?r4_5
  case h4_5 =>
    intro wS hSw
    have y0 : wS.cell? ⟨w.heap.size, 0, none⟩ = some (.slice (some ⟨g, 0, none⟩) n cap) := (b3.ext hSw (by omega)).at 0 _ rfl
    have y1 : wS.cell? ⟨w.heap.size, 1, none⟩ = some (.func (.func 76) #[] #[]) := (b3.ext hSw (by omega)).at 1 _ rfl
    have y2 : wS.cell? ⟨w.heap.size + 1, 0, none⟩ = some (.int .i64 x) := (b5.ext hSw (by omega)).at 0 _ rfl
    have y3 : wS.cell? ⟨w.heap.size + 1, 1, none⟩ = some (.int .i64 y) := (b5.ext hSw (by omega)).at 1 _ rfl
    have y4 : wS.cell? ⟨w.heap.size + 1, 2, none⟩ = some (.int .i64 z) := (b5.ext hSw (by omega)).at 2 _ rfl
    clear hSw
    (try dsimp only at hSw)
    go_simp
    try with_reducible rfl
  case r4_5 =>
  simp only [Act.put, List.setIfInBounds_toArray, List.set_cons_zero, List.set_cons_succ]
  refine wpAnyH_take (i := 5) (oi := { dst := some 11, op := Go.Op.fieldAddr 97 (Go.Operand.tmp 3) 0, type := 0, pos := "l06_center.go:30", after := #[], guard := none }) (v := ?v5_6) rfl (by kernel_rfl) (by kernel_rfl) (by kernel_rfl) (fun _ _ _ h => h) (Or.inl ⟨by rfl, ?h5_6⟩) hHeld ?r5_6
  case h5_6 =>
    intro wS hSw
    (try dsimp only at hSw)
    go_simp
    try with_reducible rfl
  case r5_6 =>
  simp only [Act.put, List.setIfInBounds_toArray, List.set_cons_zero, List.set_cons_succ]
  refine wpAnyH_take (i := 6) (oi := { dst := some 12, op := Go.Op.load 94 (Go.Operand.tmp 11), type := 94, pos := "l06_center.go:30", after := #[{ on := 5, ground := Go.Ground.data }], guard := none }) (v := ?v6_7) rfl (by kernel_rfl) (by kernel_rfl) (by kernel_rfl) (fun _ _ _ h => h) (Or.inl ⟨by rfl, ?h6_7⟩) hHeld ?r6_7
  case h6_7 =>
    intro wS hSw
    have y0 : wS.cell? ⟨w.heap.size, 0, none⟩ = some (.slice (some ⟨g, 0, none⟩) n cap) := (b3.ext hSw (by omega)).at 0 _ rfl
    have y1 : wS.cell? ⟨w.heap.size, 1, none⟩ = some (.func (.func 76) #[] #[]) := (b3.ext hSw (by omega)).at 1 _ rfl
    have y2 : wS.cell? ⟨w.heap.size + 1, 0, none⟩ = some (.int .i64 x) := (b5.ext hSw (by omega)).at 0 _ rfl
    have y3 : wS.cell? ⟨w.heap.size + 1, 1, none⟩ = some (.int .i64 y) := (b5.ext hSw (by omega)).at 1 _ rfl
    have y4 : wS.cell? ⟨w.heap.size + 1, 2, none⟩ = some (.int .i64 z) := (b5.ext hSw (by omega)).at 2 _ rfl
    clear hSw
    (try dsimp only at hSw)
    go_simp
    try with_reducible rfl
  case r6_7 =>
  simp only [Act.put, List.setIfInBounds_toArray, List.set_cons_zero, List.set_cons_succ]
  refine wpAnyH_take (i := 7) (oi := { dst := some 13, op := Go.Op.move (Go.Operand.tmp 1), type := 2, pos := "l06_center.go:30", after := #[], guard := none }) (v := ?v7_8) rfl (by kernel_rfl) (by kernel_rfl) (by kernel_rfl) (fun _ _ _ h => h) (Or.inl ⟨by rfl, ?h7_8⟩) hHeld ?r7_8
  case h7_8 =>
    intro wS hSw
    (try dsimp only at hSw)
    go_simp
    try with_reducible rfl
  case r7_8 =>
  simp only [Act.put, List.setIfInBounds_toArray, List.set_cons_zero, List.set_cons_succ]
  refine wpAnyH_take (i := 8) (oi := { dst := some 14, op := Go.Op.indexAddr 94 (Go.Operand.tmp 12) (Go.Operand.tmp 13), type := 0, pos := "l06_center.go:30", after := #[{ on := 6, ground := Go.Ground.data }, { on := 7, ground := Go.Ground.data }], guard := none }) (v := ?v8_9) rfl (by kernel_rfl) (by kernel_rfl) (by kernel_rfl) (fun _ _ _ h => h) (Or.inl ⟨by rfl, ?h8_9⟩) hHeld ?r8_9
  case h8_9 =>
    intro wS hSw
    (try dsimp only at hSw)
    go_simp
    try with_reducible rfl
  case r8_9 =>
  simp only [Act.put, List.setIfInBounds_toArray, List.set_cons_zero, List.set_cons_succ]
  refine wpAnyH_take (i := 10) (oi := { dst := some 16, op := Go.Op.load 100 (Go.Operand.tmp 5), type := 100, pos := "l06_center.go:30", after := #[], guard := none }) (v := ?v10_10) rfl (by kernel_rfl) (by kernel_rfl) (by kernel_rfl) (fun _ _ _ h => h) (Or.inl ⟨by rfl, ?h10_10⟩) hHeld ?r10_10
  case h10_10 =>
    intro wS hSw
    have y0 : wS.cell? ⟨w.heap.size, 0, none⟩ = some (.slice (some ⟨g, 0, none⟩) n cap) := (b3.ext hSw (by omega)).at 0 _ rfl
    have y1 : wS.cell? ⟨w.heap.size, 1, none⟩ = some (.func (.func 76) #[] #[]) := (b3.ext hSw (by omega)).at 1 _ rfl
    have y2 : wS.cell? ⟨w.heap.size + 1, 0, none⟩ = some (.int .i64 x) := (b5.ext hSw (by omega)).at 0 _ rfl
    have y3 : wS.cell? ⟨w.heap.size + 1, 1, none⟩ = some (.int .i64 y) := (b5.ext hSw (by omega)).at 1 _ rfl
    have y4 : wS.cell? ⟨w.heap.size + 1, 2, none⟩ = some (.int .i64 z) := (b5.ext hSw (by omega)).at 2 _ rfl
    clear hSw
    (try dsimp only at hSw)
    go_simp
    try with_reducible rfl
  case r10_10 =>
  simp only [Act.put, List.setIfInBounds_toArray, List.set_cons_zero, List.set_cons_succ]
  refine wpAnyH_ready (rs := [9]) (by kernel_rfl) (by simp) ?_
  refine AllReadyH.cons (o := { dst := some 15, op := Go.Op.load 100 (Go.Operand.tmp 14), type := 100, pos := "l06_center.go:30", after := #[{ on := 8, ground := Go.Ground.data }], guard := none }) rfl (fun K hK => ?_) AllReadyH.nil
  have s0 : wD.cell? ⟨g, p * 3, none⟩ = some (.int .i64 (f p 0)) := hSD.cell p hp 0 (by omega)
  have s1 : wD.cell? ⟨g, p * 3 + 1, none⟩ = some (.int .i64 (f p 1)) := hSD.cell p hp 1 (by omega)
  have s2 : wD.cell? ⟨g, p * 3 + 2, none⟩ = some (.int .i64 (f p 2)) := hSD.cell p hp 2 (by omega)
  go_simp
  refine hK.out _ _ hHeld (fun hHeld => ?_)
  clear hK K
  try simp only [Act.put, List.setIfInBounds_toArray, List.set_cons_zero, List.set_cons_succ]
  refine wpAnyH_ready (rs := [11]) (by kernel_rfl) (by simp) ?_
  refine AllReadyH.cons (o := { dst := some 17, op := Go.Op.call { callee := Go.Callee.value (Go.Operand.tmp 10), args := #[Go.Operand.tmp 15, Go.Operand.tmp 16], argTypes := #[100, 100] }, type := 100, pos := "l06_center.go:30", after := #[{ on := 4, ground := Go.Ground.data }, { on := 9, ground := Go.Ground.data }, { on := 10, ground := Go.Ground.data }], guard := none }) rfl (fun K hK => ?_) AllReadyH.nil
  go_simp
  go_at_call 76
  refine (plusVec (f p 0) (f p 1) (f p 2) x y z _ x1 x2 y1 y2 z1 z2).mono ?_
  rintro e w3 ⟨rfl, hbw⟩
  try go_wp2_with fail
  refine hK.out _ _ (hHeld.trans (ext_of_below hbw _)) (fun hHeld => ?_)
  clear hK K
  try simp only [Act.put, List.setIfInBounds_toArray, List.set_cons_zero, List.set_cons_succ]
  refine wpAnyH_take (i := 12) (oi := { dst := some 18, op := Go.Op.indexAddr 94 (Go.Operand.tmp 7) (Go.Operand.tmp 8), type := 0, pos := "l06_center.go:30", after := #[{ on := 1, ground := Go.Ground.data }, { on := 2, ground := Go.Ground.data }, { on := 0, ground := Go.Ground.phase }, { on := 1, ground := Go.Ground.phase }, { on := 2, ground := Go.Ground.phase }, { on := 3, ground := Go.Ground.phase }, { on := 4, ground := Go.Ground.phase }, { on := 5, ground := Go.Ground.phase }, { on := 6, ground := Go.Ground.phase }, { on := 7, ground := Go.Ground.phase }, { on := 8, ground := Go.Ground.phase }, { on := 9, ground := Go.Ground.phase }, { on := 10, ground := Go.Ground.phase }, { on := 11, ground := Go.Ground.phase }], guard := none }) (v := ?v12_11) rfl (by kernel_rfl) (by kernel_rfl) (by kernel_rfl) (fun _ _ _ h => h) (Or.inl ⟨by rfl, ?h12_11⟩) hHeld ?r12_11
  case h12_11 =>
    intro wS hSw
    (try dsimp only at hSw)
    go_simp
    try with_reducible rfl
  case r12_11 =>
  simp only [Act.put, List.setIfInBounds_toArray, List.set_cons_zero, List.set_cons_succ]
  refine wpAnyH_ready (rs := [13]) (by kernel_rfl) (by simp) ?_
  refine AllReadyH.cons (o := { dst := none, op := Go.Op.store 100 (Go.Operand.tmp 18) (Go.Operand.tmp 17), type := 0, pos := "l06_center.go:30", after := #[{ on := 12, ground := Go.Ground.data }, { on := 11, ground := Go.Ground.data }, { on := 11, ground := Go.Ground.chain }, { on := 0, ground := Go.Ground.phase }, { on := 1, ground := Go.Ground.phase }, { on := 2, ground := Go.Ground.phase }, { on := 3, ground := Go.Ground.phase }, { on := 4, ground := Go.Ground.phase }, { on := 5, ground := Go.Ground.phase }, { on := 6, ground := Go.Ground.phase }, { on := 7, ground := Go.Ground.phase }, { on := 8, ground := Go.Ground.phase }, { on := 9, ground := Go.Ground.phase }, { on := 10, ground := Go.Ground.phase }, { on := 11, ground := Go.Ground.phase }], guard := none }) rfl (fun K hK => ?_) AllReadyH.nil
  have hS3 := hSD.later hbw
  have s0 : w3.cell? ⟨g, p * 3, none⟩ = some (.int .i64 (f p 0)) := hS3.cell p hp 0 (by omega)
  have s1 : w3.cell? ⟨g, p * 3 + 1, none⟩ = some (.int .i64 (f p 1)) := hS3.cell p hp 1 (by omega)
  have s2 : w3.cell? ⟨g, p * 3 + 2, none⟩ = some (.int .i64 (f p 2)) := hS3.cell p hp 2 (by omega)
  have fz := hS3.soft
  have lg := hS3.lt
  go_simp
  refine hK.out _ _ (((hHeld.setCell ⟨g, p * 3, none⟩ _ rfl).setCell ⟨g, p * 3 + 1, none⟩ _ rfl).setCell ⟨g, p * 3 + 2, none⟩ _ rfl) (fun hHeld => ?_)
  clear hK K
  try simp only [Act.put, List.setIfInBounds_toArray, List.set_cons_zero, List.set_cons_succ]
  refine wpAnyH_done (by kernel_rfl) ?_ _
  refine NoPanic.normal ?_
  have HS9 := hide (hS3.set p hp (f p 0 + x) (f p 1 + y) (f p 2 + z))
  have HE9 := hide ((ext_of_below HB0 (fun c => c = g)).trans hHeld)
  clear hHeld hS3 hbw hSD
  go_wp2_with fail
  refine bodyPost_end (v := .tuple #[]) (by simp [results, Try.results80, go_sem]) rfl ?_
  exact ⟨rfl, unhide HS9, unhide HE9⟩

set_option maxRecDepth 100000 in
set_option maxHeartbeats 2000000 in
theorem addSumN (g n cap p : Nat) (f : Nat → Int) (x : Int) (w : World) (hS : Sums1 w g n f) (hp : p < n) (x1 : -1000000 ≤ f p + x) (x2 : f p + x ≤ 1000000) :
    Calls Try.prog 81 #[.agg #[.slice (some ⟨g, 0, none⟩) n cap, .func (.func 78) #[] #[]], .int .i64 p, .int .i64 x] w fun e w' => e = .returned (.tuple #[]) ∧ Sums1 w' g n (upd1 f p (f p + x)) ∧ Ext (fun c => c = g) w w' := by
  have hg := hS.lt
  have HB0 : Below w.heap.size w (w.alloc (.cells #[.slice (some ⟨g, 0, none⟩) n cap, .func (.func 78) #[] #[]] 103)) := (Below.refl _ _).alloc (Nat.le_refl _) _
  have b3 : Box w.heap.size #[.slice (some ⟨g, 0, none⟩) n cap, .func (.func 78) #[] #[]] 103 (w.alloc (.cells #[.slice (some ⟨g, 0, none⟩) n cap, .func (.func 78) #[] #[]] 103)) w.heap.size := newBox (Nat.le_refl _)
  have hS0 := hS.later HB0
  have i1 : (0 : Int) ≤ (p : Int) := by omega
  have i2 : (p : Int) < (n : Int) := by omega
  clear hS
  go_enter Try.func81, Try.ntmps81
  go_upto_region 1 with fail
  generalize w.alloc (.cells #[.slice (some ⟨g, 0, none⟩) n cap, .func (.func 78) #[] #[]] 103) = W0 at *
  have hSD : Sums1 W0.drew g n f := hS0.drew
  clear hS0
  refine wp_region_noPanic ?_
  refine wp_region_held_drew (S := fun w' => Ext (fun c => c = g) W0 w') (by kernel_rfl) (Ext.refl _ _).drewX (fun hHeld => ?_)
  generalize W0.drew = wD at hHeld hSD ⊢
  refine wpAnyH_take (i := 0) (oi := { dst := some 6, op := Go.Op.fieldAddr 103 (Go.Operand.tmp 3) 0, type := 0, pos := "l06_center.go:30", after := #[], guard := none }) (v := ?v0_1) rfl (by kernel_rfl) (by kernel_rfl) (by kernel_rfl) (fun _ _ _ h => h) (Or.inl ⟨by rfl, ?h0_1⟩) hHeld ?r0_1
  case h0_1 =>
    intro wS hSw
    (try dsimp only at hSw)
    go_simp
    try with_reducible rfl
  case r0_1 =>
  simp only [Act.put, List.setIfInBounds_toArray, List.set_cons_zero, List.set_cons_succ]
  refine wpAnyH_take (i := 1) (oi := { dst := some 7, op := Go.Op.load 25 (Go.Operand.tmp 6), type := 25, pos := "l06_center.go:30", after := #[{ on := 0, ground := Go.Ground.data }], guard := none }) (v := ?v1_2) rfl (by kernel_rfl) (by kernel_rfl) (by kernel_rfl) (fun _ _ _ h => h) (Or.inl ⟨by rfl, ?h1_2⟩) hHeld ?r1_2
  case h1_2 =>
    intro wS hSw
    have y0 : wS.cell? ⟨w.heap.size, 0, none⟩ = some (.slice (some ⟨g, 0, none⟩) n cap) := (b3.ext hSw (by omega)).at 0 _ rfl
    have y1 : wS.cell? ⟨w.heap.size, 1, none⟩ = some (.func (.func 78) #[] #[]) := (b3.ext hSw (by omega)).at 1 _ rfl
    clear hSw
    (try dsimp only at hSw)
    go_simp
    try with_reducible rfl
  case r1_2 =>
  simp only [Act.put, List.setIfInBounds_toArray, List.set_cons_zero, List.set_cons_succ]
  refine wpAnyH_take (i := 2) (oi := { dst := some 8, op := Go.Op.move (Go.Operand.tmp 1), type := 2, pos := "l06_center.go:30", after := #[], guard := none }) (v := ?v2_3) rfl (by kernel_rfl) (by kernel_rfl) (by kernel_rfl) (fun _ _ _ h => h) (Or.inl ⟨by rfl, ?h2_3⟩) hHeld ?r2_3
  case h2_3 =>
    intro wS hSw
    (try dsimp only at hSw)
    go_simp
    try with_reducible rfl
  case r2_3 =>
  simp only [Act.put, List.setIfInBounds_toArray, List.set_cons_zero, List.set_cons_succ]
  refine wpAnyH_take (i := 3) (oi := { dst := some 9, op := Go.Op.fieldAddr 103 (Go.Operand.tmp 3) 1, type := 0, pos := "l06_center.go:30", after := #[], guard := none }) (v := ?v3_4) rfl (by kernel_rfl) (by kernel_rfl) (by kernel_rfl) (fun _ _ _ h => h) (Or.inl ⟨by rfl, ?h3_4⟩) hHeld ?r3_4
  case h3_4 =>
    intro wS hSw
    (try dsimp only at hSw)
    go_simp
    try with_reducible rfl
  case r3_4 =>
  simp only [Act.put, List.setIfInBounds_toArray, List.set_cons_zero, List.set_cons_succ]
  refine wpAnyH_take (i := 4) (oi := { dst := some 10, op := Go.Op.load 101 (Go.Operand.tmp 9), type := 101, pos := "l06_center.go:30", after := #[{ on := 3, ground := Go.Ground.data }], guard := none }) (v := ?v4_5) rfl (by kernel_rfl) (by kernel_rfl) (by kernel_rfl) (fun _ _ _ h => h) (Or.inl ⟨by rfl, ?h4_5⟩) hHeld ?r4_5
  case h4_5 =>
    intro wS hSw
    have y0 : wS.cell? ⟨w.heap.size, 0, none⟩ = some (.slice (some ⟨g, 0, none⟩) n cap) := (b3.ext hSw (by omega)).at 0 _ rfl
    have y1 : wS.cell? ⟨w.heap.size, 1, none⟩ = some (.func (.func 78) #[] #[]) := (b3.ext hSw (by omega)).at 1 _ rfl
    clear hSw
    (try dsimp only at hSw)
    go_simp
    try with_reducible rfl
  case r4_5 =>
  simp only [Act.put, List.setIfInBounds_toArray, List.set_cons_zero, List.set_cons_succ]
  refine wpAnyH_take (i := 5) (oi := { dst := some 11, op := Go.Op.fieldAddr 103 (Go.Operand.tmp 3) 0, type := 0, pos := "l06_center.go:30", after := #[], guard := none }) (v := ?v5_6) rfl (by kernel_rfl) (by kernel_rfl) (by kernel_rfl) (fun _ _ _ h => h) (Or.inl ⟨by rfl, ?h5_6⟩) hHeld ?r5_6
  case h5_6 =>
    intro wS hSw
    (try dsimp only at hSw)
    go_simp
    try with_reducible rfl
  case r5_6 =>
  simp only [Act.put, List.setIfInBounds_toArray, List.set_cons_zero, List.set_cons_succ]
  refine wpAnyH_take (i := 6) (oi := { dst := some 12, op := Go.Op.load 25 (Go.Operand.tmp 11), type := 25, pos := "l06_center.go:30", after := #[{ on := 5, ground := Go.Ground.data }], guard := none }) (v := ?v6_7) rfl (by kernel_rfl) (by kernel_rfl) (by kernel_rfl) (fun _ _ _ h => h) (Or.inl ⟨by rfl, ?h6_7⟩) hHeld ?r6_7
  case h6_7 =>
    intro wS hSw
    have y0 : wS.cell? ⟨w.heap.size, 0, none⟩ = some (.slice (some ⟨g, 0, none⟩) n cap) := (b3.ext hSw (by omega)).at 0 _ rfl
    have y1 : wS.cell? ⟨w.heap.size, 1, none⟩ = some (.func (.func 78) #[] #[]) := (b3.ext hSw (by omega)).at 1 _ rfl
    clear hSw
    (try dsimp only at hSw)
    go_simp
    try with_reducible rfl
  case r6_7 =>
  simp only [Act.put, List.setIfInBounds_toArray, List.set_cons_zero, List.set_cons_succ]
  refine wpAnyH_take (i := 7) (oi := { dst := some 13, op := Go.Op.move (Go.Operand.tmp 1), type := 2, pos := "l06_center.go:30", after := #[], guard := none }) (v := ?v7_8) rfl (by kernel_rfl) (by kernel_rfl) (by kernel_rfl) (fun _ _ _ h => h) (Or.inl ⟨by rfl, ?h7_8⟩) hHeld ?r7_8
  case h7_8 =>
    intro wS hSw
    (try dsimp only at hSw)
    go_simp
    try with_reducible rfl
  case r7_8 =>
  simp only [Act.put, List.setIfInBounds_toArray, List.set_cons_zero, List.set_cons_succ]
  refine wpAnyH_take (i := 8) (oi := { dst := some 14, op := Go.Op.indexAddr 25 (Go.Operand.tmp 12) (Go.Operand.tmp 13), type := 0, pos := "l06_center.go:30", after := #[{ on := 6, ground := Go.Ground.data }, { on := 7, ground := Go.Ground.data }], guard := none }) (v := ?v8_9) rfl (by kernel_rfl) (by kernel_rfl) (by kernel_rfl) (fun _ _ _ h => h) (Or.inl ⟨by rfl, ?h8_9⟩) hHeld ?r8_9
  case h8_9 =>
    intro wS hSw
    (try dsimp only at hSw)
    go_simp
    try with_reducible rfl
  case r8_9 =>
  simp only [Act.put, List.setIfInBounds_toArray, List.set_cons_zero, List.set_cons_succ]
  refine wpAnyH_take (i := 10) (oi := { dst := some 16, op := Go.Op.move (Go.Operand.tmp 2), type := 2, pos := "l06_center.go:30", after := #[], guard := none }) (v := ?v10_10) rfl (by kernel_rfl) (by kernel_rfl) (by kernel_rfl) (fun _ _ _ h => h) (Or.inl ⟨by rfl, ?h10_10⟩) hHeld ?r10_10
  case h10_10 =>
    intro wS hSw
    (try dsimp only at hSw)
    go_simp
    try with_reducible rfl
  case r10_10 =>
  simp only [Act.put, List.setIfInBounds_toArray, List.set_cons_zero, List.set_cons_succ]
  refine wpAnyH_ready (rs := [9]) (by kernel_rfl) (by simp) ?_
  refine AllReadyH.cons (o := { dst := some 15, op := Go.Op.load 2 (Go.Operand.tmp 14), type := 2, pos := "l06_center.go:30", after := #[{ on := 8, ground := Go.Ground.data }], guard := none }) rfl (fun K hK => ?_) AllReadyH.nil
  have s0 : wD.cell? ⟨g, p, none⟩ = some (.int .i64 (f p)) := hSD.cell p hp
  go_simp
  refine hK.out _ _ hHeld (fun hHeld => ?_)
  clear hK K
  try simp only [Act.put, List.setIfInBounds_toArray, List.set_cons_zero, List.set_cons_succ]
  refine wpAnyH_ready (rs := [11]) (by kernel_rfl) (by simp) ?_
  refine AllReadyH.cons (o := { dst := some 17, op := Go.Op.call { callee := Go.Callee.value (Go.Operand.tmp 10), args := #[Go.Operand.tmp 15, Go.Operand.tmp 16], argTypes := #[2, 2] }, type := 2, pos := "l06_center.go:30", after := #[{ on := 4, ground := Go.Ground.data }, { on := 9, ground := Go.Ground.data }, { on := 10, ground := Go.Ground.data }], guard := none }) rfl (fun K hK => ?_) AllReadyH.nil
  go_simp
  go_at_call 78
  refine (plusNum (f p) x _ x1 x2).mono ?_
  rintro e w3 ⟨rfl, rfl⟩
  try go_wp2_with fail
  refine hK.out _ _ hHeld (fun hHeld => ?_)
  clear hK K
  try simp only [Act.put, List.setIfInBounds_toArray, List.set_cons_zero, List.set_cons_succ]
  refine wpAnyH_take (i := 12) (oi := { dst := some 18, op := Go.Op.indexAddr 25 (Go.Operand.tmp 7) (Go.Operand.tmp 8), type := 0, pos := "l06_center.go:30", after := #[{ on := 1, ground := Go.Ground.data }, { on := 2, ground := Go.Ground.data }, { on := 0, ground := Go.Ground.phase }, { on := 1, ground := Go.Ground.phase }, { on := 2, ground := Go.Ground.phase }, { on := 3, ground := Go.Ground.phase }, { on := 4, ground := Go.Ground.phase }, { on := 5, ground := Go.Ground.phase }, { on := 6, ground := Go.Ground.phase }, { on := 7, ground := Go.Ground.phase }, { on := 8, ground := Go.Ground.phase }, { on := 9, ground := Go.Ground.phase }, { on := 10, ground := Go.Ground.phase }, { on := 11, ground := Go.Ground.phase }], guard := none }) (v := ?v12_11) rfl (by kernel_rfl) (by kernel_rfl) (by kernel_rfl) (fun _ _ _ h => h) (Or.inl ⟨by rfl, ?h12_11⟩) hHeld ?r12_11
  case h12_11 =>
    intro wS hSw
    (try dsimp only at hSw)
    go_simp
    try with_reducible rfl
  case r12_11 =>
  simp only [Act.put, List.setIfInBounds_toArray, List.set_cons_zero, List.set_cons_succ]
  refine wpAnyH_ready (rs := [13]) (by kernel_rfl) (by simp) ?_
  refine AllReadyH.cons (o := { dst := none, op := Go.Op.store 2 (Go.Operand.tmp 18) (Go.Operand.tmp 17), type := 0, pos := "l06_center.go:30", after := #[{ on := 12, ground := Go.Ground.data }, { on := 11, ground := Go.Ground.data }, { on := 11, ground := Go.Ground.chain }, { on := 0, ground := Go.Ground.phase }, { on := 1, ground := Go.Ground.phase }, { on := 2, ground := Go.Ground.phase }, { on := 3, ground := Go.Ground.phase }, { on := 4, ground := Go.Ground.phase }, { on := 5, ground := Go.Ground.phase }, { on := 6, ground := Go.Ground.phase }, { on := 7, ground := Go.Ground.phase }, { on := 8, ground := Go.Ground.phase }, { on := 9, ground := Go.Ground.phase }, { on := 10, ground := Go.Ground.phase }, { on := 11, ground := Go.Ground.phase }], guard := none }) rfl (fun K hK => ?_) AllReadyH.nil
  have s0 : w3.cell? ⟨g, p, none⟩ = some (.int .i64 (f p)) := hSD.cell p hp
  have fz := hSD.soft
  have lg := hSD.lt
  go_simp
  refine hK.out _ _ (hHeld.setCell ⟨g, p, none⟩ _ rfl) (fun hHeld => ?_)
  clear hK K
  try simp only [Act.put, List.setIfInBounds_toArray, List.set_cons_zero, List.set_cons_succ]
  refine wpAnyH_done (by kernel_rfl) ?_ _
  refine NoPanic.normal ?_
  have HS9 := hide (hSD.set p hp (f p + x))
  have HE9 := hide ((ext_of_below HB0 (fun c => c = g)).trans hHeld)
  clear hHeld hSD
  go_wp2_with fail
  refine bodyPost_end (v := .tuple #[]) (by simp [results, Try.results81, go_sem]) rfl ?_
  exact ⟨rfl, unhide HS9, unhide HE9⟩

end Go.Proofs.Ytjofcmdlcoganaa

namespace Go.Proofs.Ytjofcmdlcoganaa
open Go.RowKit

set_option maxHeartbeats 400000 in
theorem implNear (s n : Int) (w : World) (h1 : 1 ≤ n) (h2 : n ≤ 1000) (h3 : -1000 * n ≤ s) (h4 : s ≤ 1000 * n) :
    Calls Try.prog 95 #[.int .i64 s, .int .i64 n] w fun e w' => e = .returned (.int .i64 (mean s n)) ∧ w' = w := by
  obtain ⟨b1, b2⟩ := near_bd s n h1 h3 h4
  have HM := hide (near_eq s n h1)
  have hd : (2 * n == 0) = false := by rw [beq_eq_false_iff_ne]; omega
  go_enter Try.func95, Try.ntmps95
  go_wp2
  go_ret
  refine ⟨?_, rfl⟩
  rw [← unhide HM]
  rfl

set_option maxHeartbeats 400000 in
theorem modelRound (s n : Int) (w : World) (h1 : 1 ≤ n) (h2 : n ≤ 1000) (h3 : -1000 * n ≤ s) (h4 : s ≤ 1000 * n) :
    Calls Try.prog 99 #[.int .i64 s, .int .i64 n] w fun e w' => e = .returned (.int .i64 (mean s n)) ∧ w' = w := by
  have hd : (2 * n == 0) = false := by rw [beq_eq_false_iff_ne]; omega
  by_cases hx : 0 ≤ 2 * s + n
  · have hm : 0 ≤ (2 * s + n) % (2 * n) := Int.emod_nonneg _ (by omega)
    go_enter Try.func99, Try.ntmps99
    go_wp2
    go_ret
    exact ⟨rfl, rfl⟩
  · obtain ⟨t1, t2⟩ := tdiv_neg_bd (2 * s + n) (2 * n) (by omega) (by omega)
    obtain ⟨r1, r2⟩ := round_neg (2 * s + n) (2 * n) (by omega) (by omega)
    by_cases hr : (2 * s + n).tmod (2 * n) < 0
    · have HM := hide (r1 hr)
      clear r1 r2
      go_enter Try.func99, Try.ntmps99
      go_wp2
      go_ret
      refine ⟨?_, rfl⟩
      unfold mean
      rw [← unhide HM]
      rfl
    · have HM := hide (r2 hr)
      clear r1 r2
      go_enter Try.func99, Try.ntmps99
      go_wp2
      go_ret
      refine ⟨?_, rfl⟩
      unfold mean
      rw [← unhide HM]
      rfl

theorem implMeanFault_n (ao : Option Addr) (len cap : Nat) (n : Int) (w : World) (h : n < 1 ∨ 1000 < n) :
    Calls Try.prog 94 #[.slice ao len cap, .int .i64 n] w fun e w' => e = .returned (.int .i64 3) ∧ w' = w := by
  by_cases h1 : n < 1
  · clear h
    go_enter Try.func94, Try.ntmps94
    go_wp2
    go_ret
    exact ⟨rfl, rfl⟩
  · have h2 : 1000 < n := by omega
    have hd : decide (1000 < n) = true := by simp; omega
    clear h
    go_enter Try.func94, Try.ntmps94
    go_wp2
    go_ret
    exact ⟨rfl, rfl⟩

theorem implMeanFault_len (ao : Option Addr) (len cap : Nat) (n : Int) (w : World) (h1 : 1 ≤ n) (h2 : n ≤ 1000) (hl : len ≠ 3) :
    Calls Try.prog 94 #[.slice ao len cap, .int .i64 n] w fun e w' => e = .returned (.int .i64 1) ∧ w' = w := by
  have hd : decide (1000 < n) = false := by simp; omega
  have h3 : ((len : Int) != 3) = true := by rw [bne_iff_ne]; omega
  go_enter Try.func94, Try.ntmps94
  go_wp2
  go_ret
  exact ⟨rfl, rfl⟩

set_option maxHeartbeats 400000 in
theorem implMeanFault_three (b off cap : Nat) (zs : List Int) (n : Int) (w : World) (h1 : 1 ≤ n) (h2 : n ≤ 1000) (h : zs.length = 3) (hc : ∀ j, j < 3 → w.cell? ⟨b, off + j, none⟩ = some (.int .i64 (zs.getD j 0))) :
    Calls Try.prog 94 #[.slice (some ⟨b, off, none⟩) 3 cap, .int .i64 n] w fun e w' => e = .returned (.int .i64 (meanFault zs n)) ∧ w' = w := by
  have hd : decide (1000 < n) = false := by simp; omega
  go_enter Try.func94, Try.ntmps94
  go_wp2
  go_loop [18] (fun i => ∃ k : Nat, k ≤ 3 ∧ i = .int .i64 k ∧ ∀ j, j < k → sumB n (zs.getD j 0) = true) (fun i => 3 - (intOf i).toNat)
  case atStart => exact ⟨0, Nat.zero_le _, rfl, fun j hj => by omega⟩
  case round =>
    obtain ⟨k, hk, rfl, hg⟩ := hrel
    have HG := hide hg
    have HL := hide h
    clear hg h
    by_cases hlt : k < 3
    · have hcx : w.cell? ⟨b, off + k, none⟩ = some (.int .i64 (zs.getD k 0)) := hc k hlt
      obtain ⟨z, hz⟩ : ∃ z, z = zs.getD k 0 := ⟨_, rfl⟩
      rw [← hz] at hcx
      have HZ := hide hz
      clear hz hc
      cases hp : sumB n z with
      | true =>
        obtain ⟨hb1, hb2⟩ := sumB_true hp
        have hd2 : decide (1000 * n < z) = false := by simp; omega
        have HP := hide hp
        clear hp
        go_wp2
        go_round
        case rel =>
          refine ⟨k + 1, by omega, by go_num, fun j hj => ?_⟩
          by_cases hjk : j < k
          · exact unhide HG j hjk
          · rw [show j = k by omega, ← unhide HZ]; exact unhide HP
        case measure => simp [intOf]; omega
      | false =>
        have HV := hide (meanFault_bad (unhide HL) k hlt (n := n) (by rw [← unhide HZ]; exact hp))
        have hb := sumB_false hp
        clear hp
        rcases hb with hb | hb
        · go_wp2
          go_ret
          exact ⟨by rw [unhide HV]; rfl, rfl⟩
        · have hb1 : -1000 * n ≤ z := by omega
          have hd2 : decide (1000 * n < z) = true := by simp; omega
          go_wp2
          go_ret
          exact ⟨by rw [unhide HV]; rfl, rfl⟩
    · have HV := hide (meanFault_ok h1 h2 (unhide HL) (fun j hj => unhide HG j (by omega)))
      go_wp2
      go_ret
      exact ⟨by rw [unhide HV]; rfl, rfl⟩

theorem implMeanFault (v : Value) (zs : List Int) (n : Int) (w : World) (h : IsInts w v zs) :
    Calls Try.prog 94 #[v, .int .i64 n] w fun e w' => e = .returned (.int .i64 (meanFault zs n)) ∧ w' = w := by
  obtain ⟨ao, cap, rfl, hwf, hc⟩ := h
  by_cases hn : n < 1 ∨ 1000 < n
  · rw [meanFault_n hn]
    exact implMeanFault_n ao zs.length cap n w hn
  · by_cases h3 : zs.length = 3
    · obtain ⟨b, off, rfl, hc1⟩ := hc (by omega)
      rw [h3] at hc1 ⊢
      exact implMeanFault_three b off cap zs n w (by omega) (by omega) h3 hc1
    · rw [meanFault_len (by omega) (by omega) h3]
      exact implMeanFault_len ao zs.length cap n w (by omega) (by omega) h3

end Go.Proofs.Ytjofcmdlcoganaa

namespace Go.Proofs.Ytjofcmdlcoganaa
open Go.RowKit

set_option maxHeartbeats 400000 in
theorem listOf3 (x y z : Int) (w : World) :
    Calls Try.prog 83 #[arr3 x y z] w fun e w' => e = .returned (.slice (some ⟨w.heap.size + 1, 0, none⟩) 3 3) ∧
      (w.alloc (.cells #[.int .i64 x, .int .i64 y, .int .i64 z] 100)).alloc (.cells #[.int .i64 x, .int .i64 y, .int .i64 z] 2) = w' := by
  have hmk : ∀ w : World, (Instr.makeSlice 25 (.int .i64 3) (.int .i64 3)).run Try.prog w = .ok (.slice (some ⟨w.heap.size, 0, none⟩) 3 3) (w.alloc (.cells #[.int .i64 0, .int .i64 0, .int .i64 0] 2)) := fun _ => by kernel_rfl
  have i0 : ∀ w : World, (Instr.index 100 (.agg #[.int .i64 x, .int .i64 y, .int .i64 z]) (.int .i64 0)).run Try.prog w = .ok (.int .i64 x) w := fun _ => by kernel_rfl
  have i1 : ∀ w : World, (Instr.index 100 (.agg #[.int .i64 x, .int .i64 y, .int .i64 z]) (.int .i64 1)).run Try.prog w = .ok (.int .i64 y) w := fun _ => by kernel_rfl
  have i2 : ∀ w : World, (Instr.index 100 (.agg #[.int .i64 x, .int .i64 y, .int .i64 z]) (.int .i64 2)).run Try.prog w = .ok (.int .i64 z) w := fun _ => by kernel_rfl
  simp only [arr3]
  go_enter Try.func83, Try.ntmps83
  go_wp2
  refine wp_loop_rounds 4 ?_
  rw [rounds_succ]
  go_wp2
  rw [rounds_succ]
  go_wp2
  rw [rounds_succ]
  go_wp2
  rw [rounds_succ]
  go_wp2
  go_ret
  exact ⟨rfl, rfl⟩

end Go.Proofs.Ytjofcmdlcoganaa

namespace Go.Proofs.Ytjofcmdlcoganaa
open Go.RowKit

theorem listOwn (x y z : Int) (w : World) (hw : ∀ a ∈ [x, y, z], (Lit.int .i64 a).wf = true) :
    Calls Try.prog 83 #[arr3 x y z] w fun e w' => ∃ g, e = .returned (.slice (some ⟨g, 0, none⟩) 3 3) ∧ (Lay.sl Lay.int).OwnIn w' [.slice (some ⟨g, 0, none⟩) 3 3] [x, y, z] w.heap.size w'.heap.size ∧ Below w.heap.size w w' := by
  refine (listOf3 x y z w).mono ?_
  rintro e w' ⟨rfl, rfl⟩
  refine ⟨w.heap.size + 1, rfl, ?_, ((Below.refl _ _).alloc (Nat.le_refl _) _).alloc (by simp) _⟩
  refine Lay.ownInts (zs := [x, y, z]) (base := w.heap.size) (T := 2) hw (by simp) ?_
  exact own_new3 (W := w.alloc _) (by simp) (by simp)

end Go.Proofs.Ytjofcmdlcoganaa

namespace Go.Proofs.Ytjofcmdlcoganaa
open Go.RowKit


set_option maxHeartbeats 400000 in
theorem implMean_code (v : Value) (zs : List Int) (n : Int) (w : World) (h : IsInts w v zs) (hf : meanFault zs n ≠ 0) :
    Calls Try.prog 82 #[v, .int .i64 n] w fun e w' => e = .returned (intsRes (meanFault zs n) (.slice none 0 0)) ∧ Below w.heap.size w w' := by
  have hne : (meanFault zs n != 0) = true := by rw [bne_iff_ne]; exact hf
  go_enter Try.func82, Try.ntmps82
  go_wp2_with fail
  refine (implMeanFault v zs n _ (h.later ((Below.refl _ _).alloc (Nat.le_refl _) _))).mono ?_
  rintro e w1 ⟨rfl, rfl⟩
  go_wp2_with fail
  refine bodyPost_ret (v := intsRes (meanFault zs n) (.slice none 0 0)) (by simp [results, Try.results82, go_sem, intsRes]) rfl ⟨rfl, ?_⟩
  exact (Below.refl _ _).alloc (Nat.le_refl _) _

set_option maxHeartbeats 1000000 in
theorem implMean_three (b off cap : Nat) (x y z n : Int) (w : World) (hbl : b < w.heap.size) (c0 : w.cell? ⟨b, off, none⟩ = some (.int .i64 x)) (c1 : w.cell? ⟨b, off + 1, none⟩ = some (.int .i64 y)) (c2 : w.cell? ⟨b, off + 2, none⟩ = some (.int .i64 z))
    (h : IsInts w (.slice (some ⟨b, off, none⟩) 3 cap) [x, y, z]) (hf : meanFault [x, y, z] n = 0) (h1 : 1 ≤ n) (h2 : n ≤ 1000) (x1 : -1000 * n ≤ x) (x2 : x ≤ 1000 * n) (y1 : -1000 * n ≤ y) (y2 : y ≤ 1000 * n) (z1 : -1000 * n ≤ z) (z2 : z ≤ 1000 * n) :
    Calls Try.prog 82 #[.slice (some ⟨b, off, none⟩) 3 cap, .int .i64 n] w fun e w' => ∃ v, e = .returned (intsRes 0 v) ∧
      w'.ownsRow w.heap.size 2 1 v 3 ([mean x n, mean y n, mean z n].map (Value.int .i64)) ∧ Below w.heap.size w w' := by
  go_enter Try.func82, Try.ntmps82
  go_wp2_with fail
  refine (implMeanFault _ [x, y, z] n _ (h.later ((Below.refl _ _).alloc (Nat.le_refl _) _))).mono ?_
  rintro e w1 ⟨rfl, rfl⟩
  rw [hf]
  clear h hf
  go_wp2_with fail
  refine wp_loop_rounds 4 ?_
  rw [rounds_succ]
  go_wp2_with fail
  refine (implNear x n _ h1 h2 x1 x2).mono ?_
  rintro e w1 ⟨rfl, rfl⟩
  go_wp2_with fail
  rw [rounds_succ]
  go_wp2_with fail
  refine (implNear y n _ h1 h2 y1 y2).mono ?_
  rintro e w1 ⟨rfl, rfl⟩
  go_wp2_with fail
  rw [rounds_succ]
  go_wp2_with fail
  refine (implNear z n _ h1 h2 z1 z2).mono ?_
  rintro e w1 ⟨rfl, rfl⟩
  go_wp2_with fail
  rw [rounds_succ]
  go_wp2_with fail
  have e := listOf3 (mean x n) (mean y n) (mean z n) ((w.alloc (.cells #[.int .i64 0, .slice none 0 0] 37)).alloc (.cells #[.int .i64 (mean x n), .int .i64 (mean y n), .int .i64 (mean z n)] 100))
  simp only [arr3] at e
  refine e.mono ?_
  clear e
  rintro e w1 ⟨rfl, rfl⟩
  go_wp2_with fail
  refine bodyPost_ret (v := intsRes 0 (.slice (some ⟨w.heap.size + 1 + 1 + 1, 0, none⟩) 3 3)) (by simp [results, Try.results82, go_sem, intsRes]) rfl ⟨_, rfl, ?_, ?_⟩
  · exact own_new3 (by simp; omega) (by simp)
  · exact ((((Below.refl w.heap.size w).alloc (Nat.le_refl _) _).alloc (by simp) _).alloc (by simp; omega) _).alloc (by simp; omega) _

/-- MeanOf of the program. -/
theorem implMean (v : Value) (zs : List Int) (n : Int) (w : World) (h : IsInts w v zs) :
    Calls Try.prog 82 #[v, .int .i64 n] w fun e w' => ∃ r, e = .returned (intsRes (meanFault zs n) r) ∧
      w'.ownsRow w.heap.size 2 1 r (meanList zs n).length ((meanList zs n).map (Value.int .i64)) ∧ Below w.heap.size w w' := by
  by_cases hf : meanFault zs n = 0
  · obtain ⟨⟨h1, h2⟩, x, y, z, rfl, ⟨x1, x2⟩, ⟨y1, y2⟩, ⟨z1, z2⟩⟩ := meanFault_zero hf
    have e : meanList [x, y, z] n = [mean x n, mean y n, mean z n] := by simp [meanList, hf]
    rw [e, hf]
    obtain ⟨b, off, cap, x', y', z', he, rfl, hbl, c0, c1, c2⟩ := h.three rfl
    simp only [List.cons.injEq, and_true] at he
    obtain ⟨rfl, rfl, rfl⟩ := he
    exact implMean_three b off cap x y z n w hbl c0 c1 c2 h hf h1 h2 x1 x2 y1 y2 z1 z2
  · have e : meanList zs n = [] := by simp [meanList, hf]
    rw [e]
    refine (implMean_code v zs n w h hf).mono ?_
    rintro e w' ⟨rfl, hb⟩
    exact ⟨_, rfl, World.ownsRow_nil _ _ _ _, hb⟩

theorem meanList_bd {zs : List Int} {n : Int} : ∀ m ∈ meanList zs n, (Lit.int .i64 m).wf = true := by
  intro m hm
  unfold meanList at hm
  split at hm
  · next hf =>
    obtain ⟨⟨h1, h2⟩, x, y, z, rfl, ⟨x1, x2⟩, ⟨y1, y2⟩, ⟨z1, z2⟩⟩ := meanFault_zero hf
    have b1 := mean_bd x n h1 x1 x2
    have b2 := mean_bd y n h1 y1 y2
    have b3 := mean_bd z n h1 z1 z2
    simp at hm
    rcases hm with rfl | rfl | rfl <;> exact wf_of_bd (by omega)
  · simp at hm
theorem meanList_len {zs : List Int} {n : Int} : (meanList zs n).length ≤ 3 := by
  unfold meanList
  split <;> simp

end Go.Proofs.Ytjofcmdlcoganaa

namespace Go.Proofs.Ytjofcmdlcoganaa
open Go.RowKit

theorem sumF_bd (cs : List DCenter) {xs : List DItem} (hl : xs.length ≤ 30) (hx : ∀ x ∈ xs, vecFault x.vec = 0) (p j : Nat) (hj : j < 3) (k : Nat) (h : k ≤ xs.length) : -30000 ≤ sumF cs xs k p j ∧ sumF cs xs k p j ≤ 30000 := by
  have h1 := sumK_bd cs hx p j hj k h
  have h2 := cntK_bd cs xs p k
  unfold sumF
  omega

set_option maxRecDepth 100000 in
set_option maxHeartbeats 8000000 in
theorem movedC_pos (b0 off0 cap0 : Nat) (cs : List DCenter) (ao : Option Addr) (cap : Nat) (xs : List DItem) (w : World) (hcs : (Lay.sl Lay.tCenter).Reads w [.slice (some ⟨b0, off0, none⟩) cs.length cap0] cs) (hbl0 : b0 < w.heap.size) (h : (Lay.sl Lay.tItem).Reads w [.slice ao xs.length cap] xs) (hfc : centersFault cs = 0) (hft : tableFault xs = 0) :
    Calls Try.prog 49 #[.slice (some ⟨b0, off0, none⟩) cs.length cap0, .slice ao xs.length cap] w fun e w' => ∃ v', e = .returned v' ∧ (Lay.sl Lay.tCenter).OwnIn w' [v'] (moved cs xs) w.heap.size w'.heap.size ∧ Below w.heap.size w w' := by
  obtain ⟨hlen, hall, -⟩ := tableFault_zero hft
  obtain ⟨⟨hn1, hn6⟩, hcv⟩ := centersFault_zero hfc
  have hxv : ∀ x ∈ xs, vecFault x.vec = 0 := fun x hm => (hall x hm).2
  obtain ⟨i0, hi, hz0, hz1, hz2⟩ := info_parts infoCenF
  have HXV := hide hxv
  have HCV := hide hcv
  have HFC := hide hfc
  have HFT := hide hft
  have HC := hide hcs
  have HX := hide h
  clear hcs h hall hxv hfc hft hcv
  go_enter Try.func49, Try.ntmps49
  go_wp2_with fail
  refine (newSumsV cs.length hn6 w).mono ?_
  rintro e w1 ⟨g1, rfl, hg1, hS1, hb1⟩
  have hg1l := hS1.lt
  have nb1 : Below w1.heap.size w1 (w1.alloc (.cells #[.slice (some ⟨g1, 0, none⟩) cs.length cs.length, .func (.func 76) #[] #[]] 97)) := (Below.refl _ _).alloc (Nat.le_refl _) _
  have bX1 : Box w.heap.size #[.slice (some ⟨g1, 0, none⟩) cs.length cs.length, .func (.func 76) #[] #[]] 97 (w1.alloc (.cells #[.slice (some ⟨g1, 0, none⟩) cs.length cs.length, .func (.func 76) #[] #[]] 97)) w1.heap.size := newBox (by omega)
  have hsf : ∀ (W : World) (a : Addr), (store a (.func (.func 76) #[] #[])).run Try.prog W = stored Try.prog W a (.func (.func 76) #[] #[]) .plain := fun W a => run_store _ _ _ _ _ rfl
  have hsf2 : ∀ (W : World) (a : Addr), (store a (.func (.func 78) #[] #[])).run Try.prog W = stored Try.prog W a (.func (.func 78) #[] #[]) .plain := fun W a => run_store _ _ _ _ _ rfl
  have HS1 := hide (hS1.later nb1)
  have HB1 := hide (hb1.trans (nb1.mono hb1.size))
  have HX1 := hide bX1
  have hz1s : (w1.alloc (.cells #[.slice (some ⟨g1, 0, none⟩) cs.length cs.length, .func (.func 76) #[] #[]] 97)).heap.size = w1.heap.size + 1 := by simp
  clear hS1 hb1 nb1 bX1
  go_wp2_with fail
  generalize w1.alloc (.cells #[.slice (some ⟨g1, 0, none⟩) cs.length cs.length, .func (.func 76) #[] #[]] 97) = W1 at *
  refine (newSumsN cs.length hn6 W1).mono ?_
  rintro e w2 ⟨g2, rfl, hg2, hS2, hb2⟩
  have hg2l := hS2.lt
  have nb2 : Below w2.heap.size w2 (w2.alloc (.cells #[.slice (some ⟨g2, 0, none⟩) cs.length cs.length, .func (.func 78) #[] #[]] 103)) := (Below.refl _ _).alloc (Nat.le_refl _) _
  have hz0s : w.heap.size ≤ W1.heap.size := (unhide HB1).size
  have bX2 : Box w.heap.size #[.slice (some ⟨g2, 0, none⟩) cs.length cs.length, .func (.func 78) #[] #[]] 103 (w2.alloc (.cells #[.slice (some ⟨g2, 0, none⟩) cs.length cs.length, .func (.func 78) #[] #[]] 103)) w2.heap.size := newBox (by have := hb2.size; omega)
  replace HS1 := hide (((unhide HS1).later hb2).later nb2)
  replace HX1 := hide (((unhide HX1).keep hb2).keep nb2)
  have HS2 := hide (hS2.later nb2)
  have HX2 := hide bX2
  have HB2 := hide (((unhide HB1).trans (hb2.mono (unhide HB1).size)).trans (nb2.mono (Nat.le_trans (unhide HB1).size hb2.size)))
  clear hS2 hb2 nb2 bX2 HB1
  go_wp2_with fail
  generalize w2.alloc (.cells #[.slice (some ⟨g2, 0, none⟩) cs.length cs.length, .func (.func 78) #[] #[]] 103) = W2 at *
  go_loopw [24] (fun i wr => ∃ k : Nat, k ≤ xs.length ∧ i = .int .i64 k ∧ Sums3 wr g1 cs.length (sumF cs xs k) ∧ Sums1 wr g2 cs.length (cntF cs xs k) ∧ Box w.heap.size #[.slice (some ⟨g1, 0, none⟩) cs.length cs.length, .func (.func 76) #[] #[]] 97 wr w1.heap.size ∧ Box w.heap.size #[.slice (some ⟨g2, 0, none⟩) cs.length cs.length, .func (.func 78) #[] #[]] 103 wr w2.heap.size ∧ Below w.heap.size w wr) (fun i _ => xs.length - (intOf i).toNat)
  case atStart => exact ⟨0, Nat.zero_le _, rfl, unhide HS1, unhide HS2, unhide HX1, unhide HX2, unhide HB2⟩
  case round =>
    obtain ⟨k, hk, rfl, hS1, hS2, hX1, hX2, hB⟩ := hrel
    clear HS1 HS2 HX1 HX2 HB2
    by_cases hlt : k < xs.length
    · obtain ⟨b, off, rfl, hbl⟩ := Lay.sl_addr (unhide HX) (by omega)
      obtain ⟨row, hc, hr⟩ := Lay.row_at (unhide HX) hlt
      replace hr := hr.later hB
      obtain ⟨a1, d1, rfl, R1⟩ := open_Item hr
      have c0 : wr.cell? ⟨b, off + k * 2, none⟩ = some (.int .i64 (xs[k]).id) := (hB.cell (p := ⟨b, off + k * 2, none⟩) hbl).trans (hc 0 (by decide))
      have c1 : wr.cell? ⟨b, off + k * 2 + 1, none⟩ = some (.slice a1 (xs[k]).vec.length d1) := (hB.cell (p := ⟨b, off + k * 2 + 1, none⟩) hbl).trans (hc 1 (by decide))
      have hvx := unhide HXV xs[k] (List.getElem_mem hlt)
      have hp := near_lt (unhide HFC) hvx
      have q0 := sumF_bd cs hlen (unhide HXV) (near cs xs[k].vec) 0 (by omega) k hk
      have q1 := sumF_bd cs hlen (unhide HXV) (near cs xs[k].vec) 1 (by omega) k hk
      have q2 := sumF_bd cs hlen (unhide HXV) (near cs xs[k].vec) 2 (by omega) k hk
      have q3 : 0 ≤ cntF cs xs k (near cs xs[k].vec) ∧ cntF cs xs k (near cs xs[k].vec) ≤ k := cntK_bd cs xs _ k
      have HST := hide (sumF_step cs xs k hlt)
      have HCT := hide (cntF_step cs xs k hlt)
      clear hc hr
      generalize hx : xs[k] = x at *
      clear hx
      obtain ⟨p1, p2, p3, hv3⟩ := cvec3 hvx
      obtain ⟨v1, v2, v3⟩ := fault3 (hv3 ▸ hvx)
      have HV3 := hide hv3
      have nb : Below wr.heap.size wr (wr.alloc (.cells #[.int .i64 x.id, .slice a1 x.vec.length d1] 41)) := (Below.refl _ _).alloc (Nat.le_refl _) _
      have bI : Box wr.heap.size #[.int .i64 x.id, .slice a1 x.vec.length d1] 41 (wr.alloc (.cells #[.int .i64 x.id, .slice a1 x.vec.length d1] 41)) wr.heap.size := newBox (Nat.le_refl _)
      have HI := hide ((Lay.ints_reads R1).later nb)
      have HVX := hide hvx
      have L := hide (nearC _ cs _ x.vec _ (((unhide HC).later hB).later nb) (unhide HI) (unhide HFC) hvx)
      have HS1 := hide (hS1.later nb)
      have HS2 := hide (hS2.later nb)
      have HX1 := hide (hX1.keep nb)
      have HX2 := hide (hX2.keep nb)
      have HBI := hide bI
      have HB := hide (hB.trans (nb.mono hB.size))
      have hwr : w.heap.size ≤ wr.heap.size := hB.size
      have hl1 := hX1.lt
      have hl2 := hX2.lt
      clear R1 hB hvx nb bI hS1 hS2 hX1 hX2 hv3
      generalize nearS cs x.vec = ns at *
      generalize hnr : near cs x.vec = nr at *
      clear hnr
      go_wp2_with fail
      clear c0 c1
      generalize wr.alloc (.cells #[.int .i64 x.id, .slice a1 x.vec.length d1] 41) = W3 at *
      refine (unhide L).mono ?_
      rintro e w4 ⟨rfl, hb4⟩
      have bI := (unhide HBI).keep hb4
      have y1 : w4.cell? ⟨wr.heap.size, 1, none⟩ = some (.slice a1 x.vec.length d1) := bI.at 1 _ rfl
      replace HS1 := hide ((unhide HS1).later hb4)
      replace HS2 := hide ((unhide HS2).later hb4)
      replace HX1 := hide ((unhide HX1).keep hb4)
      replace HX2 := hide ((unhide HX2).keep hb4)
      replace HI := hide ((unhide HI).later hb4)
      replace HB := hide ((unhide HB).trans (hb4.mono (unhide HB).size))
      have hI4 := unhide HI
      rw [unhide HV3] at hI4
      have LV := hide (vectorOf_ok _ p1 p2 p3 w4 hI4 ((unhide HV3) ▸ (unhide HVX)))
      simp only [arr3] at LV
      rw [unhide HV3] at y1
      simp only [List.length_cons, List.length_nil, Nat.zero_add, Nat.reduceAdd] at y1 LV
      clear hb4 L HBI bI HI hI4
      go_wp2_with fail
      refine (unhide LV).mono ?_
      rintro e w5 ⟨rfl, hb5⟩
      have nb5 : Below w5.heap.size w5 (w5.alloc (.cells #[.int .i64 p1, .int .i64 p2, .int .i64 p3] 100)) := (Below.refl _ _).alloc (Nat.le_refl _) _
      have bV : Box w5.heap.size #[.int .i64 p1, .int .i64 p2, .int .i64 p3] 100 (w5.alloc (.cells #[.int .i64 p1, .int .i64 p2, .int .i64 p3] 100)) w5.heap.size := newBox (Nat.le_refl _)
      replace HS1 := hide (((unhide HS1).later hb5).later nb5)
      replace HS2 := hide (((unhide HS2).later hb5).later nb5)
      replace HX1 := hide (((unhide HX1).keep hb5).keep nb5)
      replace HX2 := hide (((unhide HX2).keep hb5).keep nb5)
      have hs5 : w.heap.size ≤ w5.heap.size := Nat.le_trans (unhide HB).size hb5.size
      replace HB := hide (((unhide HB).trans (hb5.mono (unhide HB).size)).trans (nb5.mono hs5))
      have x10 := (unhide HX1).at 0 _ rfl
      have x11 := (unhide HX1).at 1 _ rfl
      have v0 := bV.at 0 _ rfl
      have v1' := bV.at 1 _ rfl
      have v2' := bV.at 2 _ rfl
      simp only [List.getElem_toArray, List.getElem_cons_zero, List.getElem_cons_succ] at x10 x11 v0 v1' v2'
      have LA := hide (addSumV g1 cs.length cs.length nr (sumF cs xs k) p1 p2 p3 _ (unhide HS1) hp (by omega) (by omega) (by omega) (by omega) (by omega) (by omega))
      clear hb5 nb5 LV y1 bV
      go_wp2_with fail
      generalize w5.alloc (.cells #[.int .i64 p1, .int .i64 p2, .int .i64 p3] 100) = W5 at *
      refine (unhide LA).mono ?_
      rintro e w6 ⟨rfl, hS6, hE6⟩
      replace HS2 := hide ((unhide HS2).ext hE6 (by omega))
      replace HX1 := hide ((unhide HX1).ext hE6 (by omega))
      replace HX2 := hide ((unhide HX2).ext hE6 (by omega))
      replace HB := hide ((unhide HB).trans (hE6.below (unhide HB).size (fun c h1 h2 => by omega)))
      have x20 := (unhide HX2).at 0 _ rfl
      have x21 := (unhide HX2).at 1 _ rfl
      simp only [List.getElem_toArray, List.getElem_cons_zero, List.getElem_cons_succ] at x20 x21
      have LB := hide (addSumN g2 cs.length cs.length nr (cntF cs xs k) 1 w6 (unhide HS2) hp (by omega) (by omega))
      replace HS1 := hide hS6
      clear x10 x11 v0 v1' v2' LA hS6 hE6
      go_wp2_with fail
      refine (unhide LB).mono ?_
      rintro e w7 ⟨rfl, hS7, hE7⟩
      replace HS1 := hide (((unhide HS1).ext hE7 (by omega)).same (f' := sumF cs xs (k + 1)) (fun q j hj => by
        have := unhide HST q j hj
        rw [unhide HV3] at this
        exact this))
      replace HS2 := hide (hS7.same (f' := cntF cs xs (k + 1)) (fun q => unhide HCT q))
      replace HX1 := hide ((unhide HX1).ext hE7 (by omega))
      replace HX2 := hide ((unhide HX2).ext hE7 (by omega))
      replace HB := hide ((unhide HB).trans (hE7.below (unhide HB).size (fun c h1 h2 => by omega)))
      clear x20 x21 LB hS7 hE7
      go_wp2_with fail
      go_roundw
      case rel => exact ⟨k + 1, by omega, by go_num, unhide HS1, unhide HS2, unhide HX1, unhide HX2, unhide HB⟩
      case measure => simp [intOf]; omega
    · obtain rfl : k = xs.length := by omega
      rename World => wz
      have HS1 := hide hS1
      have HS2 := hide hS2
      have HX1 := hide hX1
      have HX2 := hide hX2
      have HB := hide hB
      have hwr : w.heap.size ≤ wz.heap.size := hB.size
      have hl1 := hX1.lt
      have hl2 := hX2.lt
      have hg1r := hS1.lt
      have hg2r := hS2.lt
      clear hS1 hS2 hX1 hX2 hB
      go_wp2_with (at_make; refine wpList_make_full _ rfl _ _ 28 rfl wz.heap.size 77 i0 _ 1 Try.underlying28 hi hz0 hz1 _ _ _ _ cs.length rfl rfl rfl rfl ?c1 ?c2 ?c3 ?_)
      case c1 => rw [hz2]; omega
      case c2 => unfold maxLen; omega
      case c3 => exact Nat.le_refl _
      intro w8 hown8 hgrow8
      have hB8 : Below wz.heap.size wz w8 := (Below.refl _ _).grown hgrow8 (Nat.le_refl _) (by simp)
      have HF8 := hide (FillC.start (moved cs xs) hown8)
      have HB8 := hide hB8
      clear hown8 hgrow8 hB8 hi hz0 hz1 hz2
      go_wp2_with fail
      go_loopw [54] (fun i wr => ∃ p : Nat, p ≤ cs.length ∧ i = .int .i64 p ∧ FillC wr wz.heap.size cs.length p (moved cs xs) ∧ Below wz.heap.size wz wr) (fun i _ => cs.length - (intOf i).toNat)
      case atStart => exact ⟨0, Nat.zero_le _, rfl, unhide HF8, unhide HB8⟩
      case round =>
        obtain ⟨p, hp, rfl, hF, hBq⟩ := hrel
        clear HF8 HB8
        by_cases hlp : p < cs.length
        · have hX2q := (unhide HX2).keep hBq
          have hX1q := (unhide HX1).keep hBq
          have hS1q := (unhide HS1).later hBq
          have hS2q := (unhide HS2).later hBq
          have x20 := hX2q.at 0 _ rfl
          have x10 := hX1q.at 0 _ rfl
          simp only [List.getElem_toArray, List.getElem_cons_zero] at x20 x10
          have k0 : wr.cell? ⟨g2, p, none⟩ = some (.int .i64 (cnt cs xs p)) := hS2q.cell p hlp
          have s0 : wr.cell? ⟨g1, p * 3, none⟩ = some (.int .i64 (sumK cs xs p 0 xs.length)) := hS1q.cell p hlp 0 (by omega)
          have s1 : wr.cell? ⟨g1, p * 3 + 1, none⟩ = some (.int .i64 (sumK cs xs p 1 xs.length)) := hS1q.cell p hlp 1 (by omega)
          have s2 : wr.cell? ⟨g1, p * 3 + 2, none⟩ = some (.int .i64 (sumK cs xs p 2 xs.length)) := hS1q.cell p hlp 2 (by omega)
          have HT := hide (moved_take cs xs p hlp)
          have HF := hide hF
          have HBQ := hide hBq
          have hcb := cntK_bd cs xs p xs.length
          have i1 : (0 : Int) ≤ (p : Int) := by omega
          have i2 : (p : Int) < (cs.length : Int) := by omega
          clear hX1q hX2q hS1q hS2q hF
          by_cases h0 : cnt cs xs p = 0
          · obtain ⟨row, hc, hr⟩ := Lay.row_at (unhide HC) hlp
            obtain ⟨a1, d1, rfl, R1⟩ := open_Center hr
            have c1 : wr.cell? ⟨b0, off0 + p, none⟩ = some (.slice a1 (cs[p]).vec.length d1) := (hBq.cell (p := ⟨b0, off0 + p, none⟩) (Nat.lt_of_lt_of_le hbl0 hwr)).trans (((unhide HB).cell (p := ⟨b0, off0 + p, none⟩) hbl0).trans (cen_cell (hc 0 (by decide))))
            have hvy := unhide HCV cs[p] (List.getElem_mem hlp)
            have hT : (moved cs xs).take (p + 1) = (moved cs xs).take p ++ [⟨(cs[p]).vec⟩] := by
              have := unhide HT
              rw [meanAt, if_pos h0, getD_at hlp] at this
              exact this
            clear hc hr HT
            generalize hy : cs[p] = y at *
            clear hy
            have hl3 := (vecFault_zero hvy).1
            obtain ⟨b1, off1, rfl, hbl1⟩ := Lay.sl_addr R1 (by omega)
            have R2 := (R1.later (unhide HB)).later hBq
            have hwf : ∀ z ∈ y.vec, (Lit.int .i64 z).wf = true := by
              obtain ⟨_, _, _, hw, -⟩ := Lay.ints_reads R1
              exact hw
            have L := hide (slClone ⟨b1, off1, none⟩ d1 y.vec wr (Lay.ints_reads R2) (by omega))
            have HWF := hide hwf
            have HTT := hide hT
            rw [h0] at k0
            have HL3 := hide hl3
            clear hwf hT R1 R2 hBq h0 hcb s0 s1 s2 x10 hl3
            go_wp2_with fail
            refine (unhide L).mono ?_
            rintro e w9 ⟨v9, rfl, ho9, hb9⟩
            have hO9 := Lay.ownInts (unhide HWF) (by have := unhide HL3; omega) ho9
            obtain ⟨⟨u9, hu9⟩, hf9, hl9⟩ := ((unhide HF).later hb9).there hlp
            have HF9 := hide ((unhide HF).put hlp hb9 hO9 (unhide HTT))
            have HB9 : Hid (Below wz.heap.size wz (w9.setCell ⟨wz.heap.size, p, none⟩ v9)) := ((unhide HBQ).trans (hb9.mono (unhide HBQ).size)).setCell (by simp) _
            obtain ⟨a9, c9, rfl⟩ := open_sl hO9.reads
            clear hO9 ho9 hb9 L c1 k0 x20
            generalize y.vec.length = yl9 at *
            go_wp2_with fail
            go_roundw
            case rel => exact ⟨p + 1, by omega, by go_num, unhide HF9, unhide HB9⟩
            case measure => simp [intOf]; omega
          · obtain ⟨hmf, hc1, hc2⟩ := sums_right cs (unhide HFT) p h0
            have hT : (moved cs xs).take (p + 1) = (moved cs xs).take p ++ [⟨meanList (sums cs xs p) (cnt cs xs p)⟩] := by
              have := unhide HT
              rw [meanAt, if_neg h0] at this
              exact this
            have hsb0 := sumF_bd cs hlen (unhide HXV) p 0 (by omega) xs.length (Nat.le_refl _)
            have hsb1 := sumF_bd cs hlen (unhide HXV) p 1 (by omega) xs.length (Nat.le_refl _)
            have hsb2 := sumF_bd cs hlen (unhide HXV) p 2 (by omega) xs.length (Nat.le_refl _)
            unfold sumF at hsb0 hsb1 hsb2
            unfold sums at hmf hT
            have HTT := hide hT
            have HMF := hide hmf
            clear hT hmf HT h0 hcb
            generalize sumK cs xs p 0 xs.length = t0 at *
            generalize sumK cs xs p 1 xs.length = t1 at *
            generalize sumK cs xs p 2 xs.length = t2 at *
            generalize cnt cs xs p = cn at *
            have hd : decide (0 < cn) = true := by simp; omega
            have LL := hide (listOwn t0 t1 t2 wr (by
              intro a ha
              simp only [List.mem_cons, List.not_mem_nil, or_false] at ha
              rcases ha with rfl | rfl | rfl <;> exact wf_of_bd (by omega)))
            simp only [arr3] at LL
            clear hBq
            go_wp2_with fail
            refine (unhide LL).mono ?_
            rintro e w9 ⟨g9, rfl, hO9, hb9⟩
            have LM := hide (implMean _ [t0, t1, t2] cn w9 (Lay.ints_reads hO9.reads))
            rw [unhide HMF] at LM
            clear hO9 LL k0 x20 x10 s0 s1 s2
            go_wp2_with fail
            refine (unhide LM).mono ?_
            rintro e wa ⟨ra, rfl, hoa, hba⟩
            have hOa := Lay.ownInts (zs := meanList [t0, t1, t2] cn) meanList_bd (by have := meanList_len (zs := [t0, t1, t2]) (n := cn); omega) hoa
            have hba2 : Below wr.heap.size wr wa := hb9.trans (hba.mono hb9.size)
            obtain ⟨⟨u9, hu9⟩, hf9, hl9⟩ := ((unhide HF).later hba2).there hlp
            have HF9 := hide ((unhide HF).put hlp hba2 (hOa.mono hb9.size (Nat.le_refl _)) (unhide HTT))
            have HB9 : Hid (Below wz.heap.size wz (wa.setCell ⟨wz.heap.size, p, none⟩ ra)) := ((unhide HBQ).trans (hba2.mono (unhide HBQ).size)).setCell (by simp) _
            obtain ⟨a9, c9, rfl⟩ := open_sl hOa.reads
            simp only [intsRes]
            clear hOa hoa hba hb9 hba2 LM
            generalize (meanList [t0, t1, t2] cn).length = ml at *
            have hfl : ∀ W : World, (Instr.field 37 (.agg #[.int .i64 0, .slice a9 ml c9]) 1).run Try.prog W = .ok (.slice a9 ml c9) W := fun _ => by kernel_rfl
            go_wp2_with fail
            go_roundw
            case rel => exact ⟨p + 1, by omega, by go_num, unhide HF9, unhide HB9⟩
            case measure => simp [intOf]; omega
        · obtain rfl : p = cs.length := by omega
          have hO := (hF.done (moved_len cs xs) (by omega)).mono (lo' := w.heap.size) hwr (Nat.le_refl _)
          have HO := hide hO
          have HB9 := hide ((unhide HB).trans (hBq.mono hwr))
          clear hO hF hBq
          go_wp2_with fail
          go_ret
          exact ⟨_, rfl, unhide HO, unhide HB9⟩

theorem movedC (v : Value) (cs : List DCenter) (vx : Value) (xs : List DItem) (w : World) (hcs : (Lay.sl Lay.tCenter).Reads w [v] cs) (h : (Lay.sl Lay.tItem).Reads w [vx] xs) (hfc : centersFault cs = 0) (hft : tableFault xs = 0) :
    Calls Try.prog 49 #[v, vx] w fun e w' => ∃ v', e = .returned v' ∧ (Lay.sl Lay.tCenter).OwnIn w' [v'] (moved cs xs) w.heap.size w'.heap.size ∧ Below w.heap.size w w' := by
  obtain ⟨ao, cap, rfl⟩ := open_sl hcs
  obtain ⟨b, off, rfl, hbl⟩ := Lay.sl_addr hcs (centersFault_zero hfc).1.1
  obtain ⟨ao2, cap2, rfl⟩ := open_sl h
  exact movedC_pos b off cap cs ao2 cap2 xs w hcs hbl h hfc hft

end Go.Proofs.Ytjofcmdlcoganaa

namespace Go.Proofs.Ytjofcmdlcoganaa
open Go.RowKit

set_option maxRecDepth 100000 in
set_option maxHeartbeats 2000000 in
theorem implCost_pos (v : Value) (cs : List DCenter) (b off cap : Nat) (xs : List DItem) (w : World) (hcs : (Lay.sl Lay.tCenter).Reads w [v] cs) (h : (Lay.sl Lay.tItem).Reads w [.slice (some ⟨b, off, none⟩) xs.length cap] xs) (hbl : b < w.heap.size) (hc0 : centersFault cs = 0) (ht : tableFault xs = 0) :
    Calls Try.prog 48 #[v, .slice (some ⟨b, off, none⟩) xs.length cap] w fun e w' => e = .returned (.int .i64 (cost cs xs)) ∧ Below w.heap.size w w' := by
  obtain ⟨hlen, hall, -⟩ := tableFault_zero ht
  have hxv : ∀ x ∈ xs, vecFault x.vec = 0 := fun x hm => (hall x hm).2
  have HXV := hide hxv
  have HC := hide hcs
  have HCF := hide hc0
  have H := hide h
  clear h hcs hall hc0 hxv ht
  go_enter Try.func48, Try.ntmps48
  go_wp2_with fail
  go_loopw [5, 12] (fun a i wr => ∃ k : Nat, k ≤ xs.length ∧ i = .int .i64 k ∧ a = .int .i64 (costK cs xs k) ∧ Below w.heap.size w wr) (fun _ i _ => xs.length - (intOf i).toNat)
  case atStart => exact ⟨0, Nat.zero_le _, rfl, rfl, Below.refl _ _⟩
  case round =>
    obtain ⟨k, hk, rfl, rfl, hB⟩ := hrel
    by_cases hlt : k < xs.length
    · obtain ⟨row, hc, hr⟩ := Lay.row_at (unhide H) hlt
      replace hr := hr.later hB
      obtain ⟨a1, d1, rfl, R1⟩ := open_Item hr
      have c0 : wr.cell? ⟨b, off + k * 2, none⟩ = some (.int .i64 (xs[k]).id) := (hB.cell (p := ⟨b, off + k * 2, none⟩) hbl).trans (hc 0 (by decide))
      have c1 : wr.cell? ⟨b, off + k * 2 + 1, none⟩ = some (.slice a1 (xs[k]).vec.length d1) := (hB.cell (p := ⟨b, off + k * 2 + 1, none⟩) hbl).trans (hc 1 (by decide))
      have hvx := unhide HXV xs[k] (List.getElem_mem hlt)
      have hb1 := costK_bd (unhide HCF) (unhide HXV) k hk
      have hstep := costK_step cs xs k hlt
      clear hc hr
      generalize hx : xs[k] = x at *
      clear hx
      have hml := near_lt (unhide HCF) hvx
      obtain ⟨-, hs1, hs2⟩ := nearS_eq (unhide HCF) hvx hml
      have HST := hide hstep
      have nb : Below wr.heap.size wr (wr.alloc (.cells #[.int .i64 x.id, .slice a1 x.vec.length d1] 41)) := (Below.refl _ _).alloc (Nat.le_refl _) _
      have L := hide (nearC _ cs _ x.vec _ (((unhide HC).later hB).later nb) ((Lay.ints_reads R1).later nb) (unhide HCF) hvx)
      have HB := hide (hB.trans (nb.mono hB.size))
      clear R1 hB hvx hstep nb
      generalize costK cs xs k = ck at *
      generalize nearS cs x.vec = ns at *
      generalize near cs x.vec = nr at *
      go_wp2_with fail
      refine (unhide L).mono ?_
      rintro e w2 ⟨rfl, hb⟩
      have HB3 := hide ((unhide HB).trans (hb.mono (unhide HB).size))
      clear hb L HB c0 c1
      go_wp2_with fail
      go_roundw
      case rel => exact ⟨k + 1, by omega, by go_num, by rw [unhide HST], unhide HB3⟩
      case measure => simp [intOf]; omega
    · obtain rfl : k = xs.length := by omega
      have HB := hide hB
      clear hB H
      go_wp2_with fail
      go_ret
      exact ⟨rfl, unhide HB⟩

theorem implCost_zero (v : Value) (ao : Option Addr) (cap : Nat) (w : World) :
    Calls Try.prog 48 #[v, .slice ao 0 cap] w fun e w' => e = .returned (.int .i64 0) ∧ Below w.heap.size w w' := by
  go_enter Try.func48, Try.ntmps48
  go_wp2_with fail
  refine wp_loop_rounds 1 ?_
  rw [rounds_succ]
  go_wp2_with fail
  go_ret
  exact ⟨rfl, Below.refl _ _⟩

/-- totalCost of the program. -/
theorem implCost (v : Value) (cs : List DCenter) (vx : Value) (xs : List DItem) (w : World) (hcs : (Lay.sl Lay.tCenter).Reads w [v] cs) (h : (Lay.sl Lay.tItem).Reads w [vx] xs) (hc0 : centersFault cs = 0) (ht : tableFault xs = 0) :
    Calls Try.prog 48 #[v, vx] w fun e w' => e = .returned (.int .i64 (cost cs xs)) ∧ Below w.heap.size w w' := by
  obtain ⟨ao, cap, rfl⟩ := open_sl h
  by_cases hp : 0 < xs.length
  · obtain ⟨b, off, rfl, hbl⟩ := Lay.sl_addr h hp
    exact implCost_pos v cs b off cap xs w hcs h hbl hc0 ht
  · obtain rfl : xs = [] := List.eq_nil_of_length_eq_zero (by omega)
    exact implCost_zero _ ao cap w

end Go.Proofs.Ytjofcmdlcoganaa
