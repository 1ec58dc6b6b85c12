/-
  Texts of this proof in one: ImplNodeM, ImplCrashN, ImplCrashS, ImplCrashW, NodeFew, WorldFew, LawCrashW, OpenChain, OpenWrite, OpenNode, OpenMsg, OpenHit, OpenEntry, OpenWorld.
  Their conditions stand in their theorems.
-/
import Derived.Test.YtdnhmoppineegaaGreatKw11
import Derived.Deep.RegionHeld3
import Derived.Test.YtdnhmoppineegaaGreatKw00
import Derived.Test.YtdnhmoppineegaaGreatKw06
import Derived.Test.YtdnhmoppineegaaGreatKw05
import Derived.Test.YtdnhmoppineegaaGreatKw03
import Derived.Test.YtdnhmoppineegaaGreatKw04
import Derived.Test.YtdnhmoppineegaaGreatKw09
import Derived.Test.YtdnhmoppineegaaGreatKw01
set_option maxRecDepth 100000
set_option maxHeartbeats 4000000
namespace Go.Proofs.YtdnhmoppineegaaGreat
open Go.RowKit
abbrev o194x1 : Oper := ⟨some 8, .load 61 (.tmp 7), 61, "l09_node.go:60", #[⟨3, .data⟩], none⟩
abbrev o194x2 : Oper := ⟨some 12, .load 2 (.tmp 11), 2, "l09_node.go:60", #[⟨7, .data⟩], none⟩
abbrev o194x3 : Oper := ⟨some 14, .binOp .add 2 (.tmp 12) (.tmp 13) 2, 2, "l09_node.go:60", #[⟨8, .data⟩, ⟨9, .data⟩], none⟩
abbrev o194x4 : Oper := ⟨some 15, .slice 61 (.tmp 8) none (some (.tmp 14)) none, 61, "l09_node.go:60", #[⟨4, .data⟩, ⟨10, .data⟩], none⟩
abbrev o194x5 : Oper := ⟨some 16, .nilCheck (.tmp 4), 0, "l09_node.go:60", #[⟨0, .data⟩, ⟨0, .phase⟩, ⟨1, .phase⟩, ⟨2, .phase⟩, ⟨3, .phase⟩, ⟨4, .phase⟩, ⟨5, .phase⟩, ⟨6, .phase⟩, ⟨7, .phase⟩, ⟨8, .phase⟩, ⟨9, .phase⟩, ⟨10, .phase⟩, ⟨11, .phase⟩], none⟩
abbrev o194x6 : Oper := ⟨some 17, .fieldAddr 181 (.tmp 16) 0, 0, "l09_node.go:60", #[⟨12, .data⟩, ⟨0, .phase⟩, ⟨1, .phase⟩, ⟨2, .phase⟩, ⟨3, .phase⟩, ⟨4, .phase⟩, ⟨5, .phase⟩, ⟨6, .phase⟩, ⟨7, .phase⟩, ⟨8, .phase⟩, ⟨9, .phase⟩, ⟨10, .phase⟩, ⟨11, .phase⟩], none⟩
abbrev o194x7 : Oper := ⟨none, .store 61 (.tmp 17) (.tmp 15), 0, "l09_node.go:60", #[⟨13, .data⟩, ⟨11, .data⟩, ⟨0, .phase⟩, ⟨1, .phase⟩, ⟨2, .phase⟩, ⟨3, .phase⟩, ⟨4, .phase⟩, ⟨5, .phase⟩, ⟨6, .phase⟩, ⟨7, .phase⟩, ⟨8, .phase⟩, ⟨9, .phase⟩, ⟨10, .phase⟩, ⟨11, .phase⟩], none⟩
theorem countC (g : Nat) (a : Option Addr) (n c : Nat) (x : DNode) (w : World) (h : HeldAt w g (.slice a n c) x) :
  Calls Tryz.prog 176 #[.pointer (some ⟨g, 0, none⟩)] w fun e w' => e = .returned (.int .i64 (n : Int)) ∧ w' = w := by
 have y0 := Box.at h 0 _ rfl
 simp only [List.getElem_toArray, List.getElem_cons_zero] at y0
 have yl := h.lt
 clear h
 go_enter Tryz.func176, Tryz.ntmps176
 go_wp2_with fail
 go_ret
 exact ⟨rfl, rfl⟩
theorem looseC (g : Nat) (a : Option Addr) (n c : Nat) (x : DNode) (w : World) (h : HeldAt w g (.slice a n c) x) (hs : 0 ≤ x.sure ∧ x.sure ≤ n) (hn : n ≤ 1000) :
  Calls Tryz.prog 184 #[.pointer (some ⟨g, 0, none⟩)] w fun e w' => e = .returned (.int .i64 ((n : Int) - x.sure)) ∧ Below w.heap.size w w' := by
 have hHD : HeldAt w.drew g (.slice a n c) x := h
 go_enter Tryz.func184, Tryz.ntmps184
 go_wp2_with fail
 refine wp_region_noPanic ?_
 refine wp_region_held_drew (S := fun w' => w' = w.drew) (by kernel_rfl) rfl (fun zq => ?_)
 refine tkH (i := 0) (oi := ⟨some 3, .move (.tmp 0), 222, "l09_node.go:37", #[], none⟩) (v := ?vo0) rfl ?ho0 zq ?ro0
 case ho0 => intro _ _; go_simp; try with_reducible rfl
 refine tkH (i := 2) (oi := ⟨some 5, .move (.tmp 0), 222, "l09_node.go:37", #[], none⟩) (v := ?vo2) rfl ?ho2 zq ?ro2
 case ho2 => intro _ _; go_simp; try with_reducible rfl
 refine tkH (i := 3) (oi := ⟨some 6, .nilCheck (.tmp 5), 0, "l09_node.go:37", #[⟨2, .data⟩], none⟩) (v := ?vo3) rfl ?ho3 zq ?ro3
 case ho3 => intro _ _; go_simp; try with_reducible rfl
 refine tkH (i := 4) (oi := ⟨some 7, .fieldAddr 181 (.tmp 6) 1, 0, "l09_node.go:37", #[⟨3, .data⟩], none⟩) (v := ?vo4) rfl ?ho4 zq ?ro4
 case ho4 => intro _ _; go_simp; try with_reducible rfl
 refine tkH (i := 5) (oi := ⟨some 8, .load 2 (.tmp 7), 2, "l09_node.go:37", #[⟨4, .data⟩], none⟩) (v := ?vo5) rfl ?ho5 zq ?ro5
 case ho5 =>
  intro wS hSw
  have y1 : wS.cell? ⟨g, 1, none⟩ = some (.int .i64 x.sure) := by rw [hSw]; exact Box.at hHD 1 _ rfl
  clear hSw
  (try dsimp only at hSw)
  go_simp
  try with_reducible rfl
 refine rdH (i := 1) (oi := ⟨some 4, .call { callee := .value (.func 176), args := #[.tmp 3], argTypes := #[222] }, 2, "l09_node.go:37", #[⟨0, .data⟩], none⟩) rfl (fun K hK => ?_)
 go_simp
 go_at_call 176
 refine (countC g a n c x _ hHD).mono ?_
 rintro e w3 ⟨rfl, rfl⟩
 try go_wp2_with fail
 refine hK.out _ _ rfl (fun zq => ?_)
 clear hK K
 try simp only [Act.put, pz, py, px]
 refine tkH (i := 6) (oi := ⟨some 9, .binOp .sub 2 (.tmp 4) (.tmp 8) 2, 2, "l09_node.go:37", #[⟨1, .data⟩, ⟨5, .data⟩], none⟩) (v := ?vo6) rfl ?ho6 zq ?ro6
 case ho6 => intro _ _; go_simp; try with_reducible rfl
 refine tkH (i := 7) (oi := ⟨some 2, .assign (.tmp 9), 2, "l09_node.go:37", #[⟨6, .data⟩, ⟨1, .chain⟩, ⟨0, .phase⟩, ⟨1, .phase⟩, ⟨2, .phase⟩, ⟨3, .phase⟩, ⟨4, .phase⟩, ⟨5, .phase⟩, ⟨6, .phase⟩], none⟩) (v := ?vo7) rfl ?ho7 zq ?ro7
 case ho7 => intro _ _; go_simp; try with_reducible rfl
 refine wpAnyH_done (by kernel_rfl) ?_ _
 refine NoPanic.normal ?_
 clear zq
 have hwr : IntKind.i64.wrap ((n : Int) - x.sure) = (n : Int) - x.sure := (by rw [IntKind.wrap_i64]; omega)
 go_wp2_with fail
 go_ret
 simp only [hwr]
 exact ⟨rfl, (Below.refl _ _).drew⟩
theorem syncC (g : Nat) (a : Option Addr) (n c : Nat) (x : DNode) (w : World) (h : HeldAt w g (.slice a n c) x) :
  Calls Tryz.prog 175 #[.pointer (some ⟨g, 0, none⟩)] w fun e w' => e = .returned (.tuple #[]) ∧ HeldAt w' g (.slice a n c) ⟨x.id, x.up, x.epoch, x.lease, x.writes, (n : Int), x.clean⟩ ∧ Ext (fun q => q = g) w w' := by
 have L := yh (countC g a n c x w h)
 have y1 := Box.at h 1 _ rfl
 simp only [ga, gb, gc] at y1
 have yf := Box.soft h
 have yl := h.lt
 have HH : Hid (HeldAt (w.setCell ⟨g, 1, none⟩ (.int .i64 (n : Int))) g (.slice a n c) ⟨x.id, x.up, x.epoch, x.lease, x.writes, (n : Int), x.clean⟩) := Box.set h 1 (.int .i64 (n : Int))
 have HE : Hid (Ext (fun q => q = g) w (w.setCell ⟨g, 1, none⟩ (.int .i64 (n : Int)))) := (Ext.refl (fun q => q = g) _).setCell ⟨g, 1, none⟩ _ rfl
 clear h
 go_enter Tryz.func175, Tryz.ntmps175
 go_wp2_with fail
 refine (uh L).mono ?_
 rintro e w1 ⟨rfl, h1⟩
 subst w1
 go_wp2_with fail
 refine bodyPost_end (v := .tuple #[]) (by simp [results, Tryz.results175, go_sem]) rfl ?_
 exact ⟨rfl, uh HH, uh HE⟩
theorem toldC (g : Nat) (a : Option Addr) (n c : Nat) (x : DNode) (w : World) (h : HeldAt w g (.slice a n c) x) :
  Calls Tryz.prog 177 #[.pointer (some ⟨g, 0, none⟩)] w fun e w' => e = .returned (.agg #[.int .i64 x.id, .bool x.up, .int .i64 x.epoch, .int .i64 x.lease, .slice a n c, .int .i64 x.sure, .int .i64 x.clean]) ∧ Below w.heap.size w w' := by
 have k0 := Box.at h 0 _ rfl
 have k1 := Box.at h 1 _ rfl
 have k2 := Box.at h 2 _ rfl
 have k3 := Box.at h 3 _ rfl
 have k4 := Box.at h 4 _ rfl
 have k5 := Box.at h 5 _ rfl
 have k6 := Box.at h 6 _ rfl
 simp only [ga, gb, gc] at k0 k1 k2 k3 k4 k5 k6
 have hgl := h.lt
 have HB0 := yh ((Below.refl w.heap.size w).alloc (Nat.le_refl _) (.cells #[.int .i64 0, .bool false, .int .i64 0, .int .i64 0, .slice none 0 0, .int .i64 0, .int .i64 0] 63))
 have hRD : Box 0 #[.int .i64 0, .bool false, .int .i64 0, .int .i64 0, .slice none 0 0, .int .i64 0, .int .i64 0] 63 (w.alloc (.cells #[.int .i64 0, .bool false, .int .i64 0, .int .i64 0, .slice none 0 0, .int .i64 0, .int .i64 0] 63)).drew w.heap.size := (newBox (Nat.zero_le _)).drew
 clear h
 go_enter Tryz.func177, Tryz.ntmps177
 go_wp2_with fail
 generalize w.alloc (.cells #[.int .i64 0, .bool false, .int .i64 0, .int .i64 0, .slice none 0 0, .int .i64 0, .int .i64 0] 63) = W0 at *
 refine wp_region_noPanic ?_
 refine wp_region_held_drew (S := fun w' => Below w.heap.size w w') (by kernel_rfl) (uh HB0).drew (fun zq => ?_)
 generalize W0.drew = wD at zq hRD ⊢
 refine tkH (i := 0) (oi := ⟨some 3, .move (.tmp 0), 177, "l09_node.go:148", #[], none⟩) (v := ?vt0) rfl ?ht0 zq ?rt0
 case ht0 => intro _ _; go_simp; try with_reducible rfl
 refine tkH (i := 1) (oi := ⟨some 4, .nilCheck (.tmp 3), 0, "l09_node.go:148", #[⟨0, .data⟩], none⟩) (v := ?vt1) rfl ?ht1 zq ?rt1
 case ht1 => intro _ _; go_simp; try with_reducible rfl
 refine tkH (i := 2) (oi := ⟨some 5, .fieldAddr 183 (.tmp 4) 1, 0, "l09_node.go:148", #[⟨1, .data⟩], none⟩) (v := ?vt2) rfl ?ht2 zq ?rt2
 case ht2 => intro _ _; go_simp; try with_reducible rfl
 refine tkH (i := 3) (oi := ⟨some 6, .load 2 (.tmp 5), 2, "l09_node.go:148", #[⟨2, .data⟩], none⟩) (v := ?vt3) rfl ?ht3 zq ?rt3
 case ht3 =>
  intro wS hSw
  have y2 : wS.cell? ⟨g, 2, none⟩ = some (.int .i64 x.id) := (hSw.cell (p := ⟨g, 2, none⟩) hgl).trans k2
  clear hSw
  (try dsimp only at hSw)
  go_simp
  try with_reducible rfl
 refine tkH (i := 4) (oi := ⟨some 7, .move (.tmp 0), 177, "l09_node.go:148", #[], none⟩) (v := ?vt4) rfl ?ht4 zq ?rt4
 case ht4 => intro _ _; go_simp; try with_reducible rfl
 refine tkH (i := 5) (oi := ⟨some 8, .nilCheck (.tmp 7), 0, "l09_node.go:148", #[⟨4, .data⟩], none⟩) (v := ?vt5) rfl ?ht5 zq ?rt5
 case ht5 => intro _ _; go_simp; try with_reducible rfl
 refine tkH (i := 6) (oi := ⟨some 9, .fieldAddr 183 (.tmp 8) 2, 0, "l09_node.go:148", #[⟨5, .data⟩], none⟩) (v := ?vt6) rfl ?ht6 zq ?rt6
 case ht6 => intro _ _; go_simp; try with_reducible rfl
 refine tkH (i := 7) (oi := ⟨some 10, .load 4 (.tmp 9), 4, "l09_node.go:148", #[⟨6, .data⟩], none⟩) (v := ?vt7) rfl ?ht7 zq ?rt7
 case ht7 =>
  intro wS hSw
  have y3 : wS.cell? ⟨g, 3, none⟩ = some (.bool x.up) := (hSw.cell (p := ⟨g, 3, none⟩) hgl).trans k3
  clear hSw
  (try dsimp only at hSw)
  go_simp
  try with_reducible rfl
 refine tkH (i := 8) (oi := ⟨some 11, .move (.tmp 0), 177, "l09_node.go:148", #[], none⟩) (v := ?vt8) rfl ?ht8 zq ?rt8
 case ht8 => intro _ _; go_simp; try with_reducible rfl
 refine tkH (i := 9) (oi := ⟨some 12, .nilCheck (.tmp 11), 0, "l09_node.go:148", #[⟨8, .data⟩], none⟩) (v := ?vt9) rfl ?ht9 zq ?rt9
 case ht9 => intro _ _; go_simp; try with_reducible rfl
 refine tkH (i := 10) (oi := ⟨some 13, .fieldAddr 183 (.tmp 12) 3, 0, "l09_node.go:148", #[⟨9, .data⟩], none⟩) (v := ?vt10) rfl ?ht10 zq ?rt10
 case ht10 => intro _ _; go_simp; try with_reducible rfl
 refine tkH (i := 11) (oi := ⟨some 14, .load 2 (.tmp 13), 2, "l09_node.go:148", #[⟨10, .data⟩], none⟩) (v := ?vt11) rfl ?ht11 zq ?rt11
 case ht11 =>
  intro wS hSw
  have y4 : wS.cell? ⟨g, 4, none⟩ = some (.int .i64 x.epoch) := (hSw.cell (p := ⟨g, 4, none⟩) hgl).trans k4
  clear hSw
  (try dsimp only at hSw)
  go_simp
  try with_reducible rfl
 refine tkH (i := 12) (oi := ⟨some 15, .move (.tmp 0), 177, "l09_node.go:148", #[], none⟩) (v := ?vt12) rfl ?ht12 zq ?rt12
 case ht12 => intro _ _; go_simp; try with_reducible rfl
 refine tkH (i := 13) (oi := ⟨some 16, .nilCheck (.tmp 15), 0, "l09_node.go:148", #[⟨12, .data⟩], none⟩) (v := ?vt13) rfl ?ht13 zq ?rt13
 case ht13 => intro _ _; go_simp; try with_reducible rfl
 refine tkH (i := 14) (oi := ⟨some 17, .fieldAddr 183 (.tmp 16) 4, 0, "l09_node.go:148", #[⟨13, .data⟩], none⟩) (v := ?vt14) rfl ?ht14 zq ?rt14
 case ht14 => intro _ _; go_simp; try with_reducible rfl
 refine tkH (i := 15) (oi := ⟨some 18, .load 2 (.tmp 17), 2, "l09_node.go:148", #[⟨14, .data⟩], none⟩) (v := ?vt15) rfl ?ht15 zq ?rt15
 case ht15 =>
  intro wS hSw
  have y5 : wS.cell? ⟨g, 5, none⟩ = some (.int .i64 x.lease) := (hSw.cell (p := ⟨g, 5, none⟩) hgl).trans k5
  clear hSw
  (try dsimp only at hSw)
  go_simp
  try with_reducible rfl
 refine tkH (i := 16) (oi := ⟨some 19, .move (.tmp 0), 177, "l09_node.go:148", #[], none⟩) (v := ?vt16) rfl ?ht16 zq ?rt16
 case ht16 => intro _ _; go_simp; try with_reducible rfl
 refine tkH (i := 17) (oi := ⟨some 20, .nilCheck (.tmp 19), 0, "l09_node.go:148", #[⟨16, .data⟩], none⟩) (v := ?vt17) rfl ?ht17 zq ?rt17
 case ht17 => intro _ _; go_simp; try with_reducible rfl
 refine tkH (i := 18) (oi := ⟨some 21, .fieldAddr 183 (.tmp 20) 0, 0, "l09_node.go:148", #[⟨17, .data⟩], none⟩) (v := ?vt18) rfl ?ht18 zq ?rt18
 case ht18 => intro _ _; go_simp; try with_reducible rfl
 refine tkH (i := 19) (oi := ⟨some 22, .fieldAddr 181 (.tmp 21) 0, 0, "l09_node.go:148", #[⟨18, .data⟩], none⟩) (v := ?vt19) rfl ?ht19 zq ?rt19
 case ht19 => intro _ _; go_simp; try with_reducible rfl
 refine tkH (i := 20) (oi := ⟨some 23, .load 61 (.tmp 22), 61, "l09_node.go:148", #[⟨19, .data⟩], none⟩) (v := ?vt20) rfl ?ht20 zq ?rt20
 case ht20 =>
  intro wS hSw
  have y0 : wS.cell? ⟨g, 0, none⟩ = some (.slice a n c) := (hSw.cell (p := ⟨g, 0, none⟩) hgl).trans k0
  clear hSw
  (try dsimp only at hSw)
  go_simp
  try with_reducible rfl
 refine tkH (i := 21) (oi := ⟨some 24, .move (.tmp 0), 177, "l09_node.go:148", #[], none⟩) (v := ?vt21) rfl ?ht21 zq ?rt21
 case ht21 => intro _ _; go_simp; try with_reducible rfl
 refine tkH (i := 22) (oi := ⟨some 25, .nilCheck (.tmp 24), 0, "l09_node.go:148", #[⟨21, .data⟩], none⟩) (v := ?vt22) rfl ?ht22 zq ?rt22
 case ht22 => intro _ _; go_simp; try with_reducible rfl
 refine tkH (i := 23) (oi := ⟨some 26, .fieldAddr 183 (.tmp 25) 0, 0, "l09_node.go:148", #[⟨22, .data⟩], none⟩) (v := ?vt23) rfl ?ht23 zq ?rt23
 case ht23 => intro _ _; go_simp; try with_reducible rfl
 refine tkH (i := 24) (oi := ⟨some 27, .fieldAddr 181 (.tmp 26) 1, 0, "l09_node.go:148", #[⟨23, .data⟩], none⟩) (v := ?vt24) rfl ?ht24 zq ?rt24
 case ht24 => intro _ _; go_simp; try with_reducible rfl
 refine tkH (i := 25) (oi := ⟨some 28, .load 2 (.tmp 27), 2, "l09_node.go:148", #[⟨24, .data⟩], none⟩) (v := ?vt25) rfl ?ht25 zq ?rt25
 case ht25 =>
  intro wS hSw
  have y1 : wS.cell? ⟨g, 1, none⟩ = some (.int .i64 x.sure) := (hSw.cell (p := ⟨g, 1, none⟩) hgl).trans k1
  clear hSw
  (try dsimp only at hSw)
  go_simp
  try with_reducible rfl
 refine tkH (i := 26) (oi := ⟨some 29, .move (.tmp 0), 177, "l09_node.go:148", #[], none⟩) (v := ?vt26) rfl ?ht26 zq ?rt26
 case ht26 => intro _ _; go_simp; try with_reducible rfl
 refine tkH (i := 27) (oi := ⟨some 30, .nilCheck (.tmp 29), 0, "l09_node.go:148", #[⟨26, .data⟩], none⟩) (v := ?vt27) rfl ?ht27 zq ?rt27
 case ht27 => intro _ _; go_simp; try with_reducible rfl
 refine tkH (i := 28) (oi := ⟨some 31, .fieldAddr 183 (.tmp 30) 5, 0, "l09_node.go:148", #[⟨27, .data⟩], none⟩) (v := ?vt28) rfl ?ht28 zq ?rt28
 case ht28 => intro _ _; go_simp; try with_reducible rfl
 refine tkH (i := 29) (oi := ⟨some 32, .load 2 (.tmp 31), 2, "l09_node.go:148", #[⟨28, .data⟩], none⟩) (v := ?vt29) rfl ?ht29 zq ?rt29
 case ht29 =>
  intro wS hSw
  have y6 : wS.cell? ⟨g, 6, none⟩ = some (.int .i64 x.clean) := (hSw.cell (p := ⟨g, 6, none⟩) hgl).trans k6
  clear hSw
  (try dsimp only at hSw)
  go_simp
  try with_reducible rfl
 refine tkH (i := 30) (oi := ⟨some 33, .build 63 #[(0, .tmp 6), (1, .tmp 10), (2, .tmp 14), (3, .tmp 18), (4, .tmp 23), (5, .tmp 28), (6, .tmp 32)], 63, "l09_node.go:148", #[⟨3, .data⟩, ⟨7, .data⟩, ⟨11, .data⟩, ⟨15, .data⟩, ⟨20, .data⟩, ⟨25, .data⟩, ⟨29, .data⟩], none⟩) (v := ?vt30) rfl ?ht30 zq ?rt30
 case ht30 => intro _ _; go_simp; try with_reducible rfl
 refine rdH (i := 31) (oi := ⟨none, .store 63 (.tmp 2) (.tmp 33), 0, "l09_node.go:148", #[⟨30, .data⟩, ⟨0, .phase⟩, ⟨1, .phase⟩, ⟨2, .phase⟩, ⟨3, .phase⟩, ⟨4, .phase⟩, ⟨5, .phase⟩, ⟨6, .phase⟩, ⟨7, .phase⟩, ⟨8, .phase⟩, ⟨9, .phase⟩, ⟨10, .phase⟩, ⟨11, .phase⟩, ⟨12, .phase⟩, ⟨13, .phase⟩, ⟨14, .phase⟩, ⟨15, .phase⟩, ⟨16, .phase⟩, ⟨17, .phase⟩, ⟨18, .phase⟩, ⟨19, .phase⟩, ⟨20, .phase⟩, ⟨21, .phase⟩, ⟨22, .phase⟩, ⟨23, .phase⟩, ⟨24, .phase⟩, ⟨25, .phase⟩, ⟨26, .phase⟩, ⟨27, .phase⟩, ⟨28, .phase⟩, ⟨29, .phase⟩, ⟨30, .phase⟩], none⟩) rfl (fun K hK => ?_)
 have z0 := Box.at hRD 0 _ rfl
 have z1 := Box.at hRD 1 _ rfl
 have z2 := Box.at hRD 2 _ rfl
 have z3 := Box.at hRD 3 _ rfl
 have z4 := Box.at hRD 4 _ rfl
 have z5 := Box.at hRD 5 _ rfl
 have z6 := Box.at hRD 6 _ rfl
 simp only [ga, gb, gc] at z0 z1 z2 z3 z4 z5 z6
 have ff := Box.soft hRD
 have l0 := Box.lt hRD
 go_simp
 try go_wp2_with fail
 refine hK.out _ _ (below_setAll zq w.heap.size 0 [.int .i64 x.id, .bool x.up, .int .i64 x.epoch, .int .i64 x.lease, .slice a n c, .int .i64 x.sure, .int .i64 x.clean] (Nat.le_refl _)) (fun zq => ?_)
 clear hK K
 try simp only [Act.put, pz, py, px]
 refine wpAnyH_done (by kernel_rfl) ?_ _
 refine NoPanic.normal ?_
 have HB9 := yh (zq)
 clear zq
 go_wp2_with fail
 refine bodyPost_ret (v := .agg #[.int .i64 x.id, .bool x.up, .int .i64 x.epoch, .int .i64 x.lease, .slice a n c, .int .i64 x.sure, .int .i64 x.clean]) (by simp [results, Tryz.results177, go_sem, z0, z1, z2, z3, z4, z5, z6]) rfl ?_
 exact ⟨rfl, uh HB9⟩
theorem tearC (g gw n s k t : Nat) (x : DNode) (w : World) (h : HeldAt w g (.slice (some ⟨gw, 0, none⟩) n n) ⟨x.id, x.up, x.epoch, x.lease, x.writes, (s : Int), x.clean⟩) (h1 : t ≤ s + k) (h2 : s + k ≤ t) (hk : t ≤ n) (hn : n ≤ 1000) :
  Calls Tryz.prog 222 #[.pointer (some ⟨g, 0, none⟩), .int .i64 (k : Int)] w fun e w' => e = .returned (.tuple #[]) ∧ HeldAt w' g (.slice (some ⟨gw, 0, none⟩) t n) ⟨x.id, x.up, x.epoch, x.lease, x.writes, (t : Int), x.clean⟩ ∧ Ext (fun q => q = g) w w' := by
 have hHD : HeldAt w.drew g (.slice (some ⟨gw, 0, none⟩) n n) ⟨x.id, x.up, x.epoch, x.lease, x.writes, (s : Int), x.clean⟩ := h
 have k0 := Box.at hHD 0 _ rfl
 have k1 := Box.at hHD 1 _ rfl
 have k6 := Box.at hHD 6 _ rfl
 have kf := Box.soft hHD
 have kl := Box.lt hHD
 simp only [ga, gb, gc] at k0 k1 k6
 clear h
 go_enter Tryz.func222, Tryz.ntmps222
 go_wp2_with fail
 refine wp_region_noPanic ?_
 refine wp_region_held_drew (S := fun w' => Ext (fun q => q = g) w w') (by kernel_rfl) ((Ext.refl _ _).drew 1) (fun zq => ?_)
 generalize w.drew = wD at zq k0 k1 k6 kf kl hHD ⊢
 refine tkH (i := 0) (oi := ⟨some 4, .move (.tmp 0), 222, "l09_node.go:60", #[], none⟩) (v := ?vr0_1) rfl ?hr0_1 zq ?rr0_1
 case hr0_1 => intro _ _; go_simp; try with_reducible rfl
 refine tkH (i := 1) (oi := ⟨some 5, .move (.tmp 0), 222, "l09_node.go:60", #[], none⟩) (v := ?vr1_2) rfl ?hr1_2 zq ?rr1_2
 case hr1_2 => intro _ _; go_simp; try with_reducible rfl
 refine tkH (i := 2) (oi := ⟨some 6, .nilCheck (.tmp 5), 0, "l09_node.go:60", #[⟨1, .data⟩], none⟩) (v := ?vr2_3) rfl ?hr2_3 zq ?rr2_3
 case hr2_3 => intro _ _; go_simp; try with_reducible rfl
 refine tkH (i := 3) (oi := ⟨some 7, .fieldAddr 181 (.tmp 6) 0, 0, "l09_node.go:60", #[⟨2, .data⟩], none⟩) (v := ?vr3_4) rfl ?hr3_4 zq ?rr3_4
 case hr3_4 => intro _ _; go_simp; try with_reducible rfl
 refine tkH (i := 5) (oi := ⟨some 9, .move (.tmp 0), 222, "l09_node.go:60", #[], none⟩) (v := ?vr5_5) rfl ?hr5_5 zq ?rr5_5
 case hr5_5 => intro _ _; go_simp; try with_reducible rfl
 refine tkH (i := 6) (oi := ⟨some 10, .nilCheck (.tmp 9), 0, "l09_node.go:60", #[⟨5, .data⟩], none⟩) (v := ?vr6_6) rfl ?hr6_6 zq ?rr6_6
 case hr6_6 => intro _ _; go_simp; try with_reducible rfl
 refine tkH (i := 7) (oi := ⟨some 11, .fieldAddr 181 (.tmp 10) 1, 0, "l09_node.go:60", #[⟨6, .data⟩], none⟩) (v := ?vr7_7) rfl ?hr7_7 zq ?rr7_7
 case hr7_7 => intro _ _; go_simp; try with_reducible rfl
 refine tkH (i := 9) (oi := ⟨some 13, .move (.tmp 1), 2, "l09_node.go:60", #[], none⟩) (v := ?vr9_8) rfl ?hr9_8 zq ?rr9_8
 case hr9_8 => intro _ _; go_simp; try with_reducible rfl
 refine wpAnyH_ready (rs := [4, 8]) (by kernel_rfl) (by simp) ?_
 refine AllReadyH.cons (o := o194x1) rfl (fun K hK => ?or4_9) (AllReadyH.cons (o := o194x2) rfl (fun K hK => ?or8_9) (AllReadyH.nil))
 case or4_9 =>
  go_simp
  refine hK.out _ _ zq (fun zq => ?_)
  clear hK K
  try simp only [Act.put, pz, py, px]
  refine rdH (i := 8) (oi := o194x2) rfl (fun K hK => ?_)
  go_simp
  refine hK.out _ _ zq (fun zq => ?_)
  clear hK K
  try simp only [Act.put, pz, py, px]
  refine tkH (i := 10) (oi := o194x3) (v := ?vr10_10) rfl ?hr10_10 zq ?rr10_10
  case hr10_10 =>
   intro wS hSw
   have hst : (s : Int) + (k : Int) = (t : Int) := by omega
   have hwr : IntKind.i64.wrap (t : Int) = (t : Int) := by rw [IntKind.wrap_i64]; omega
   (try dsimp only at hSw)
   go_simp
   try with_reducible rfl
  refine tkH (i := 11) (oi := o194x4) (v := ?vr11_11) rfl ?hr11_11 zq ?rr11_11
  case hr11_11 =>
   intro wS hSw
   have hst : (s : Int) + (k : Int) = (t : Int) := by omega
   have hwr : IntKind.i64.wrap (t : Int) = (t : Int) := by rw [IntKind.wrap_i64]; omega
   (try dsimp only at hSw)
   go_simp
   try with_reducible rfl
  refine tkH (i := 12) (oi := o194x5) (v := ?vr12_12) rfl ?hr12_12 zq ?rr12_12
  case hr12_12 => intro _ _; go_simp; try with_reducible rfl
  refine tkH (i := 13) (oi := o194x6) (v := ?vr13_13) rfl ?hr13_13 zq ?rr13_13
  case hr13_13 => intro _ _; go_simp; try with_reducible rfl
  refine rdH (i := 14) (oi := o194x7) rfl (fun K hK => ?_)
  go_simp
  refine hK.out _ _ (zq.setCell ⟨g, 0, none⟩ _ rfl) (fun zq => ?_)
  clear hK K
  try simp only [Act.put, pz, py, px]
  refine wpAnyH_done (by kernel_rfl) ?_ _
  refine NoPanic.normal ?_
  have HE := yh zq
  have HL := yh (syncC g (some ⟨gw, 0, none⟩) t n ⟨x.id, x.up, x.epoch, x.lease, x.writes, (s : Int), x.clean⟩ (wD.setCell ⟨g, 0, none⟩ (.slice (some ⟨gw, 0, none⟩) t n)) (Box.set hHD 0 (.slice (some ⟨gw, 0, none⟩) t n)))
  clear zq hHD k0 k1 k6 kf kl
  go_wp2_with fail
  refine (uh HL).mono ?_
  rintro e w3 ⟨rfl, hH3, hE3⟩
  have HE3 := yh ((uh HE).trans hE3)
  have HH3 := yh hH3
  clear hH3 hE3 HL HE
  go_wp2_with fail
  refine bodyPost_end (v := .tuple #[]) (by simp [results, Tryz.results222, go_sem]) rfl ?_
  exact ⟨rfl, uh HH3, uh HE3⟩
 case or8_9 =>
  go_simp
  refine hK.out _ _ zq (fun zq => ?_)
  clear hK K
  try simp only [Act.put, pz, py, px]
  refine tkH (i := 10) (oi := o194x3) (v := ?vr10_14) rfl ?hr10_14 zq ?rr10_14
  case hr10_14 =>
   intro wS hSw
   have hst : (s : Int) + (k : Int) = (t : Int) := by omega
   have hwr : IntKind.i64.wrap (t : Int) = (t : Int) := by rw [IntKind.wrap_i64]; omega
   (try dsimp only at hSw)
   go_simp
   try with_reducible rfl
  refine rdH (i := 4) (oi := o194x1) rfl (fun K hK => ?_)
  go_simp
  refine hK.out _ _ zq (fun zq => ?_)
  clear hK K
  try simp only [Act.put, pz, py, px]
  refine tkH (i := 11) (oi := o194x4) (v := ?vr11_15) rfl ?hr11_15 zq ?rr11_15
  case hr11_15 =>
   intro wS hSw
   have hst : (s : Int) + (k : Int) = (t : Int) := by omega
   have hwr : IntKind.i64.wrap (t : Int) = (t : Int) := by rw [IntKind.wrap_i64]; omega
   (try dsimp only at hSw)
   go_simp
   try with_reducible rfl
  refine tkH (i := 12) (oi := o194x5) (v := ?vr12_16) rfl ?hr12_16 zq ?rr12_16
  case hr12_16 => intro _ _; go_simp; try with_reducible rfl
  refine tkH (i := 13) (oi := o194x6) (v := ?vr13_17) rfl ?hr13_17 zq ?rr13_17
  case hr13_17 => intro _ _; go_simp; try with_reducible rfl
  refine rdH (i := 14) (oi := o194x7) rfl (fun K hK => ?_)
  go_simp
  refine hK.out _ _ (zq.setCell ⟨g, 0, none⟩ _ rfl) (fun zq => ?_)
  clear hK K
  try simp only [Act.put, pz, py, px]
  refine wpAnyH_done (by kernel_rfl) ?_ _
  refine NoPanic.normal ?_
  have HE := yh zq
  have HL := yh (syncC g (some ⟨gw, 0, none⟩) t n ⟨x.id, x.up, x.epoch, x.lease, x.writes, (s : Int), x.clean⟩ (wD.setCell ⟨g, 0, none⟩ (.slice (some ⟨gw, 0, none⟩) t n)) (Box.set hHD 0 (.slice (some ⟨gw, 0, none⟩) t n)))
  clear zq hHD k0 k1 k6 kf kl
  go_wp2_with fail
  refine (uh HL).mono ?_
  rintro e w3 ⟨rfl, hH3, hE3⟩
  have HE3 := yh ((uh HE).trans hE3)
  have HH3 := yh hH3
  clear hH3 hE3 HL HE
  go_wp2_with fail
  refine bodyPost_end (v := .tuple #[]) (by simp [results, Tryz.results222, go_sem]) rfl ?_
  exact ⟨rfl, uh HH3, uh HE3⟩
theorem crashC (g gw n s k t : Nat) (x : DNode) (w : World) (h : HeldAt w g (.slice (some ⟨gw, 0, none⟩) n n) ⟨x.id, x.up, x.epoch, x.lease, x.writes, (s : Int), x.clean⟩) (h1 : t ≤ s + k) (h2 : s + k ≤ t) (hk : t ≤ n) (hn : n ≤ 1000) :
  Calls Tryz.prog 185 #[.pointer (some ⟨g, 0, none⟩), .int .i64 (k : Int)] w fun e w' => e = .returned (.tuple #[]) ∧ HeldAt w' g (.slice (some ⟨gw, 0, none⟩) t n) ⟨x.id, false, x.epoch, 0, x.writes, (t : Int), 0⟩ ∧ Ext (fun q => q = g) w w' := by
 have HL := yh (tearC g gw n s k t x w h h1 h2 hk hn)
 clear h
 go_enter Tryz.func185, Tryz.ntmps185
 go_wp2_with fail
 refine (uh HL).mono ?_
 rintro e w3 ⟨rfl, hH3, hE3⟩
 have k3 := Box.at hH3 3 _ rfl
 have k5 := Box.at hH3 5 _ rfl
 have k6 := Box.at hH3 6 _ rfl
 have kf := Box.soft hH3
 have kl := Box.lt hH3
 simp only [ga, gb, gc] at k3 k5 k6
 have HH9 : Hid (HeldAt (((w3.setCell ⟨g, 3, none⟩ (.bool false)).setCell ⟨g, 6, none⟩ (.int .i64 0)).setCell ⟨g, 5, none⟩ (.int .i64 0)) g (.slice (some ⟨gw, 0, none⟩) t n) ⟨x.id, false, x.epoch, 0, x.writes, (t : Int), 0⟩) := ((Box.set hH3 3 (.bool false)).set 6 (.int .i64 0)).set 5 (.int .i64 0)
 have HE9 : Hid (Ext (fun q => q = g) w (((w3.setCell ⟨g, 3, none⟩ (.bool false)).setCell ⟨g, 6, none⟩ (.int .i64 0)).setCell ⟨g, 5, none⟩ (.int .i64 0))) := ((hE3.setCell ⟨g, 3, none⟩ _ rfl).setCell ⟨g, 6, none⟩ _ rfl).setCell ⟨g, 5, none⟩ _ rfl
 clear hH3 hE3 HL
 go_wp2_with fail
 refine bodyPost_end (v := .tuple #[]) (by simp [results, Tryz.results185, go_sem]) rfl ?_
 exact ⟨rfl, uh HH9, uh HE9⟩
theorem implCrashNode (cs : List Value) (x : DNode) (i : Int) (w : World) (h : Lay.tNode.Reads w cs x) :
  Calls Tryz.prog 124 #[.agg cs.toArray, .int .i64 i] w fun e w' => ∃ cs, e = .returned (.agg cs.toArray) ∧ Lay.tNodeResult.OwnIn w' cs (crashR x i) w.heap.size w'.heap.size ∧ Below w.heap.size w w' := by
 have hN := h
 obtain ⟨a4, d4, rfl, R4⟩ := open_Node h
 have nb : Below w.heap.size w ((w.alloc (.cells #[.int .i64 x.id, .bool x.up, .int .i64 x.epoch, .int .i64 x.lease, .slice a4 x.writes.length d4, .int .i64 x.sure, .int .i64 x.clean] 63)).alloc (.cells #[.int .i64 0, .int .i64 0, .int .i64 0, .bool false, .int .i64 0, .int .i64 0, .slice none 0 0, .int .i64 0, .int .i64 0] 65)) := ((Below.refl _ _).alloc (Nat.le_refl _) _).alloc (by simp) _
 have bR : Box 0 #[.int .i64 0, .int .i64 0, .int .i64 0, .bool false, .int .i64 0, .int .i64 0, .slice none 0 0, .int .i64 0, .int .i64 0] 65 ((w.alloc (.cells #[.int .i64 x.id, .bool x.up, .int .i64 x.epoch, .int .i64 x.lease, .slice a4 x.writes.length d4, .int .i64 x.sure, .int .i64 x.clean] 63)).alloc (.cells #[.int .i64 0, .int .i64 0, .int .i64 0, .bool false, .int .i64 0, .int .i64 0, .slice none 0 0, .int .i64 0, .int .i64 0] 65)) (w.heap.size + 1) := newBoxAt (Nat.zero_le _) (by simp)
 by_cases hf : askedN x = 0
 ·
  have hok := (askedN_zero hf).1
  have HL := yh (upNode_ok _ x _ (hN.later nb) hf)
  have HA := yh hf
  have HOK := yh hok
  have HB0 := yh nb
  have HR0 := yh bR
  clear hN nb bR R4 hf hok
  go_enter Tryz.func124, Tryz.ntmps124
  go_wp2_with fail
  generalize (w.alloc (.cells #[.int .i64 x.id, .bool x.up, .int .i64 x.epoch, .int .i64 x.lease, .slice a4 x.writes.length d4, .int .i64 x.sure, .int .i64 x.clean] 63)).alloc (.cells #[.int .i64 0, .int .i64 0, .int .i64 0, .bool false, .int .i64 0, .int .i64 0, .slice none 0 0, .int .i64 0, .int .i64 0] 65) = W0 at *
  refine (uh HL).mono ?_
  rintro e w1 ⟨g, gw, rfl, hH, O, hg, hb⟩
  have HR1 := yh ((uh HR0).keep hb)
  have hgr : w.heap.size + 1 < g := by have := (uh HR0).lt; omega
  have HB1 := yh ((uh HB0).trans (hb.mono (uh HB0).size))
  have HH1 := yh hH
  have HO1 := yh O
  have hgl := hH.lt
  clear hb HL HB0 HR0 hH O hg
  have hsr := (uh HOK).sure
  have hln := (uh HOK).len
  obtain ⟨s, hs⟩ : ∃ s : Nat, x.sure = (s : Int) := ⟨x.sure.toNat, by omega⟩
  have HS := yh hs
  have LO := yh (looseC g _ _ _ x w1 (uh HH1) hsr (by omega))
  have hsn : s ≤ x.writes.length := by omega
  clear hs
  go_wp2_with fail
  refine (uh LO).mono ?_
  rintro e w5 ⟨rfl, hb5⟩
  replace HR1 := yh ((uh HR1).keep hb5)
  replace HO1 := yh ((uh HO1).later hb5)
  replace HH1 := yh ((uh HH1).keep hb5)
  have hz5 := hb5.size
  replace HB1 := yh ((uh HB1).trans (hb5.mono (uh HB1).size))
  replace hgl := Nat.lt_of_lt_of_le hgl hz5
  clear hb5 LO
  have LU := yh (isUpToC i ((x.writes.length : Int) - x.sure) w5)
  go_wp2_with fail
  refine (uh LU).mono ?_
  rintro e w2 ⟨rfl, h2⟩
  subst w2
  clear LU
  by_cases hi : 0 ≤ i ∧ i ≤ (x.writes.length : Int) - x.sure
  ·
   have hd2 : (decide (0 ≤ i) && decide (i ≤ (x.writes.length : Int) - x.sure)) = true := by simpa using hi
   rw [hd2]
   clear hd2
   obtain ⟨k, rfl⟩ : ∃ k : Nat, i = (k : Int) := ⟨i.toNat, by omega⟩
   obtain ⟨t, ht⟩ : ∃ t : Nat, t = s + k := ⟨_, rfl⟩
   have hs0 := uh HS
   have htn : t ≤ x.writes.length := by omega
   have h1t : t ≤ s + k := by omega
   have h2t : s + k ≤ t := by omega
   have hH' : HeldAt w5 g (.slice (some ⟨gw, 0, none⟩) x.writes.length x.writes.length) ⟨x.id, x.up, x.epoch, x.lease, x.writes, (s : Int), x.clean⟩ := by rw [← hs0]; exact uh HH1
   have HL2 := yh (crashC g gw x.writes.length s k t x w5 hH' h1t h2t htn (by omega))
   have HYY : Hid (crashR x (k : Int) = ⟨0, 0, ⟨x.id, false, x.epoch, 0, x.writes.take t, (t : Int), 0⟩⟩) := by
    show crashR x (k : Int) = _
    rw [crashR, if_pos (uh HA), if_pos hi, crashN, hs0, show ((s : Int) + (k : Int)) = (t : Int) by omega, Int.toNat_natCast]
   clear hs0 ht hi hH'
   go_wp2_with fail
   refine (uh HL2).mono ?_
   rintro e w2 ⟨rfl, hH2, hE2⟩
   have HR2 := yh ((uh HR1).ext hE2 (by omega))
   have HO2 := yh ((uh HO1).ext hE2 (fun q h1 h2 h3 => by omega))
   have HB2 := yh ((uh HB1).trans (hE2.below (uh HB1).size (fun q hq e => by omega)))
   have hz2 := hE2.size
   have HH2 := yh hH2
   clear hE2 hH2 HL2 HR1 HO1 HB1 HH1
   have HO3 := yh (sl_take_own (uh HO2) t htn)
   have HT := yh (toldC g _ _ _ _ w2 (uh HH2))
   go_wp2_with fail
   refine (uh HT).mono ?_
   rintro e w9 ⟨rfl, hb9⟩
   have bR9 := (uh HR2).keep hb9
   have z0 := Box.at bR9 0 _ rfl
   have z1 := Box.at bR9 1 _ rfl
   have z2 := Box.at bR9 2 _ rfl
   have z3 := Box.at bR9 3 _ rfl
   have z4 := Box.at bR9 4 _ rfl
   have z5 := Box.at bR9 5 _ rfl
   have z6 := Box.at bR9 6 _ rfl
   have z7 := Box.at bR9 7 _ rfl
   have z8 := Box.at bR9 8 _ rfl
   simp only [ga, gb, gc] at z0 z1 z2 z3 z4 z5 z6 z7 z8
   have ff := Box.soft bR9
   have l0 := Box.lt bR9
   have HO9 := yh ((uh HO3).later hb9)
   have HB9 := yh ((uh HB2).trans (hb9.mono (uh HB2).size))
   have hz9 := hb9.size
   clear hb9 HT bR9
   go_wp2_with fail
   refine bodyPost_ret (v := .agg #[.int .i64 0, .int .i64 0, .int .i64 x.id, .bool false, .int .i64 x.epoch, .int .i64 0, .slice (some ⟨gw, 0, none⟩) t x.writes.length, .int .i64 (t : Int), .int .i64 0]) (by simp [results, Tryz.results124, go_sem, z0, z1, z2, z3, z4, z5, z6, z7, z8]) rfl ?_
   rw [uh HYY]
   obtain ⟨i1, i2, i3, i4, -, -, i7, i8, -⟩ := uh HOK
   have hB9 := below_setAll (uh HB9) (w.heap.size + 1) 0 [.int .i64 0, .int .i64 0, .int .i64 x.id, .bool false, .int .i64 x.epoch, .int .i64 0, .slice (some ⟨gw, 0, none⟩) t x.writes.length, .int .i64 (t : Int), .int .i64 0] (by omega)
   refine ⟨[.int .i64 0, .int .i64 0, .int .i64 x.id, .bool false, .int .i64 x.epoch, .int .i64 0, .slice (some ⟨gw, 0, none⟩) t x.writes.length, .int .i64 (t : Int), .int .i64 0], rfl, ?_, hB9⟩
   have o1 := own_store' (s := w.heap.size + 1) (vs := [.int .i64 0, .int .i64 0, .int .i64 x.id, .bool false, .int .i64 x.epoch, .int .i64 0, .slice (some ⟨gw, 0, none⟩) t x.writes.length, .int .i64 (t : Int), .int .i64 0]) (uh HO9) (by omega)
   exact own_nodeR (x := ⟨x.id, false, x.epoch, 0, x.writes.take t, (t : Int), 0⟩) (c := 0) (n := 0) (by omega) (by omega) (o1.mono (by omega) (Nat.le_trans (by omega : w1.heap.size ≤ w9.heap.size) (Nat.le_of_eq (size_setAll w9 (w.heap.size + 1) 0 [.int .i64 0, .int .i64 0, .int .i64 x.id, .bool false, .int .i64 x.epoch, .int .i64 0, .slice (some ⟨gw, 0, none⟩) t x.writes.length, .int .i64 (t : Int), .int .i64 0]).symm))) (by simp only; omega) (by simp only; omega) (by simp only; omega) (by simp only; omega) (by simp only; omega)
  have hd2 : (decide (0 ≤ i) && decide (i ≤ (x.writes.length : Int) - x.sure)) = false := by
   by_cases h1 : 0 ≤ i
   ·
    simp [h1]; omega
   simp [h1]
  rw [hd2]
  clear hd2
  have bR1 := uh HR1
  have HY : Hid (crashR x i = badNode 3) := by show crashR x i = _; rw [crashR, if_pos (uh HA), if_neg hi]
  have z0 := Box.at bR1 0 _ rfl
  have z1 := Box.at bR1 1 _ rfl
  have z2 := Box.at bR1 2 _ rfl
  have z3 := Box.at bR1 3 _ rfl
  have z4 := Box.at bR1 4 _ rfl
  have z5 := Box.at bR1 5 _ rfl
  have z6 := Box.at bR1 6 _ rfl
  have z7 := Box.at bR1 7 _ rfl
  have z8 := Box.at bR1 8 _ rfl
  simp only [ga, gb, gc] at z0 z1 z2 z3 z4 z5 z6 z7 z8
  have ff := Box.soft bR1
  have l0 := Box.lt bR1
  clear bR1
  go_wp2_with fail
  refine bodyPost_ret (v := .agg #[.int .i64 3, .int .i64 0, .int .i64 0, .bool false, .int .i64 0, .int .i64 0, .slice none 0 0, .int .i64 0, .int .i64 0]) (by simp [results, Tryz.results124, go_sem, z0, z1, z2, z3, z4, z5, z6, z7, z8]) rfl ?_
  rw [uh HY]
  have hB9 := below_setAll (uh HB1) (w.heap.size + 1) 0 [.int .i64 3, .int .i64 0, .int .i64 0, .bool false, .int .i64 0, .int .i64 0, .slice none 0 0, .int .i64 0, .int .i64 0] (by omega)
  exact ⟨[.int .i64 3, .int .i64 0, .int .i64 0, .bool false, .int .i64 0, .int .i64 0, .slice none 0 0, .int .i64 0, .int .i64 0], rfl, own_badNode (by decide), hB9⟩
 have HL := yh (upNode_bad _ x _ (hN.later nb) hf)
 have hd : (askedN x != 0) = true := by simpa using hf
 have HY := yh (crashR_bad (x := x) (i := i) hf)
 have HW := yh (askedN_bd x)
 have HB0 := yh nb
 have HR0 := yh bR
 clear hN nb bR R4 hf
 generalize askedN x = c at *
 go_enter Tryz.func124, Tryz.ntmps124
 go_wp2_with fail
 generalize (w.alloc (.cells #[.int .i64 x.id, .bool x.up, .int .i64 x.epoch, .int .i64 x.lease, .slice a4 x.writes.length d4, .int .i64 x.sure, .int .i64 x.clean] 63)).alloc (.cells #[.int .i64 0, .int .i64 0, .int .i64 0, .bool false, .int .i64 0, .int .i64 0, .slice none 0 0, .int .i64 0, .int .i64 0] 65) = W0 at *
 refine (uh HL).mono ?_
 rintro e w1 ⟨rfl, hb⟩
 have bR1 := (uh HR0).keep hb
 have z0 := Box.at bR1 0 _ rfl
 have z1 := Box.at bR1 1 _ rfl
 have z2 := Box.at bR1 2 _ rfl
 have z3 := Box.at bR1 3 _ rfl
 have z4 := Box.at bR1 4 _ rfl
 have z5 := Box.at bR1 5 _ rfl
 have z6 := Box.at bR1 6 _ rfl
 have z7 := Box.at bR1 7 _ rfl
 have z8 := Box.at bR1 8 _ rfl
 simp only [ga, gb, gc] at z0 z1 z2 z3 z4 z5 z6 z7 z8
 have ff := Box.soft bR1
 have l0 := Box.lt bR1
 have HB1 := yh ((uh HB0).trans (hb.mono (uh HB0).size))
 clear hb HL HB0 HR0 bR1
 go_wp2_with fail
 refine bodyPost_ret (v := .agg #[.int .i64 c, .int .i64 0, .int .i64 0, .bool false, .int .i64 0, .int .i64 0, .slice none 0 0, .int .i64 0, .int .i64 0]) (by simp [results, Tryz.results124, go_sem, z0, z1, z2, z3, z4, z5, z6, z7, z8]) rfl ?_
 rw [uh HY]
 have hB9 := below_setAll (uh HB1) (w.heap.size + 1) 0 [.int .i64 c, .int .i64 0, .int .i64 0, .bool false, .int .i64 0, .int .i64 0, .slice none 0 0, .int .i64 0, .int .i64 0] (by omega)
 exact ⟨[.int .i64 c, .int .i64 0, .int .i64 0, .bool false, .int .i64 0, .int .i64 0, .slice none 0 0, .int .i64 0, .int .i64 0], rfl, own_badNode (uh HW), hB9⟩
abbrev o196x1 : Oper := ⟨some 6, .move (.tmp 0), 58, "l12_world.go:365", #[], none⟩
abbrev o196x2 : Oper := ⟨some 7, .move (.tmp 0), 58, "l12_world.go:365", #[], none⟩
abbrev o196x3 : Oper := ⟨some 8, .nilCheck (.tmp 7), 0, "l12_world.go:365", #[⟨1, .data⟩], none⟩
abbrev o196x4 : Oper := ⟨some 9, .fieldAddr 36 (.tmp 8) 3, 0, "l12_world.go:365", #[⟨2, .data⟩], none⟩
abbrev o196x5 : Oper := ⟨some 10, .load 32 (.tmp 9), 32, "l12_world.go:365", #[⟨3, .data⟩], none⟩
abbrev o196x6 : Oper := ⟨some 11, .load 2 (.tmp 1), 2, "l12_world.go:365", #[], none⟩
abbrev o196x7 : Oper := ⟨some 12, .binOp .sub 2 (.tmp 11) (.const (.int .i64 1)) 2, 2, "l12_world.go:365", #[⟨5, .data⟩], none⟩
abbrev o196x8 : Oper := ⟨some 13, .indexAddr 32 (.tmp 10) (.tmp 12), 0, "l12_world.go:365", #[⟨4, .data⟩, ⟨6, .data⟩], none⟩
abbrev o196x9 : Oper := ⟨some 15, .load 2 (.tmp 2), 2, "l12_world.go:365", #[], none⟩
abbrev o196x10 : Oper := ⟨some 14, .load 63 (.tmp 13), 63, "l12_world.go:365", #[⟨7, .data⟩], none⟩
abbrev o196x11 : Oper := ⟨some 16, .call { callee := .value (.func 124), args := #[.tmp 14, .tmp 15], argTypes := #[63, 2] }, 65, "l12_world.go:365", #[⟨8, .data⟩, ⟨9, .data⟩], none⟩
abbrev o196x12 : Oper := ⟨some 17, .call { callee := .value (.func 109), args := #[.tmp 6, .tmp 16], argTypes := #[58, 65] }, 134, "l12_world.go:365", #[⟨0, .data⟩, ⟨10, .data⟩, ⟨10, .chain⟩], none⟩
abbrev o196x13 : Oper := ⟨some 18, .extract (.tmp 17) 0, 4, "l12_world.go:365", #[⟨11, .data⟩], none⟩
abbrev o196x14 : Oper := ⟨some 19, .extract (.tmp 17) 1, 2, "l12_world.go:365", #[⟨11, .data⟩], none⟩
abbrev o196x15 : Oper := ⟨some 4, .assign (.tmp 18), 4, "l12_world.go:365", #[⟨12, .data⟩, ⟨11, .chain⟩, ⟨0, .phase⟩, ⟨1, .phase⟩, ⟨2, .phase⟩, ⟨3, .phase⟩, ⟨4, .phase⟩, ⟨5, .phase⟩, ⟨6, .phase⟩, ⟨7, .phase⟩, ⟨8, .phase⟩, ⟨9, .phase⟩, ⟨10, .phase⟩, ⟨11, .phase⟩, ⟨12, .phase⟩, ⟨13, .phase⟩], none⟩
abbrev o196x16 : Oper := ⟨some 5, .assign (.tmp 19), 2, "l12_world.go:365", #[⟨13, .data⟩, ⟨14, .chain⟩, ⟨0, .phase⟩, ⟨1, .phase⟩, ⟨2, .phase⟩, ⟨3, .phase⟩, ⟨4, .phase⟩, ⟨5, .phase⟩, ⟨6, .phase⟩, ⟨7, .phase⟩, ⟨8, .phase⟩, ⟨9, .phase⟩, ⟨10, .phase⟩, ⟨11, .phase⟩, ⟨12, .phase⟩, ⟨13, .phase⟩, ⟨14, .phase⟩], none⟩
theorem crashStepC (L k : Nat) (p p2 : Nat) (kept : Int) (y : DWorld) (W : World) (hp : Box 0 #[.int .i64 ((k : Int) + 1)] 2 W p) (lp : p < L) (hp2 : Box 0 #[.int .i64 kept] 2 W p2) (lp2 : p2 < L) (hk : k < y.nodes.length) (hn5 : y.nodes.length ≤ 5) (hid : (crashR (y.nodes[k]) kept).code = 0 → (crashR (y.nodes[k]) kept).node.id = (k : Int) + 1) :
  StepC L 123 #[.pointer (some ⟨p, 0, none⟩), .pointer (some ⟨p2, 0, none⟩)] y (crashR (y.nodes[k]) kept).code true (putNode y (crashR (y.nodes[k]) kept).node) W := by
 intro g lo v3 v4 v5 v6 hL hg hlo hO
 show Calls Tryz.prog 123 #[.pointer (some ⟨g, 0, none⟩), .pointer (some ⟨p, 0, none⟩), .pointer (some ⟨p2, 0, none⟩)] W _
 obtain ⟨a3, d3, a4, d4, a5, d5, a6, d6, hq, -, RNs, -, -⟩ := open_World hO.reads
 simp only [List.cons.injEq, and_true, true_and] at hq
 obtain ⟨rfl, rfl, rfl, rfl⟩ := hq
 obtain ⟨b, off, rfl, hbl⟩ := Lay.sl_addr RNs (by omega)
 obtain ⟨row, hcl, hr⟩ := Lay.row_at RNs hk
 obtain ⟨an, dn, rfl, -⟩ := open_Node hr
 have x0 : W.drew.cell? ⟨b, off + k * 7, none⟩ = some (.int .i64 (y.nodes[k]).id) := hcl 0 (by decide)
 have x1 : W.drew.cell? ⟨b, off + k * 7 + 1, none⟩ = some (.bool (y.nodes[k]).up) := hcl 1 (by decide)
 have x2 : W.drew.cell? ⟨b, off + k * 7 + 2, none⟩ = some (.int .i64 (y.nodes[k]).epoch) := hcl 2 (by decide)
 have x3 : W.drew.cell? ⟨b, off + k * 7 + 3, none⟩ = some (.int .i64 (y.nodes[k]).lease) := hcl 3 (by decide)
 have x4 : W.drew.cell? ⟨b, off + k * 7 + 4, none⟩ = some (.slice an (y.nodes[k]).writes.length dn) := hcl 4 (by decide)
 have x5 : W.drew.cell? ⟨b, off + k * 7 + 5, none⟩ = some (.int .i64 (y.nodes[k]).sure) := hcl 5 (by decide)
 have x6 : W.drew.cell? ⟨b, off + k * 7 + 6, none⟩ = some (.int .i64 (y.nodes[k]).clean) := hcl 6 (by decide)
 have g4 := Box.at hg 4 _ rfl
 simp only [ga, gb, gc] at g4
 have hp0 := Box.at hp 0 _ rfl
 have hpl := hp.lt
 simp only [List.getElem_toArray, List.getElem_cons_zero] at hp0
 have hp20 := Box.at hp2 0 _ rfl
 have hp2l := hp2.lt
 simp only [List.getElem_toArray, List.getElem_cons_zero] at hp20
 have hgl := hg.lt
 have hw1 : IntKind.i64.wrap (k : Int) = (k : Int) := by
  rw [IntKind.wrap_i64]
  omega
 have hki : (k : Int) < (y.nodes.length : Int) := by omega
 have hki0 : (0 : Int) ≤ (k : Int) := by omega
 have HL := yh (implCrashNode _ (y.nodes[k]) kept W.drew (hr.drew 1))
 have HG : Hid (Box 0 _ 36 W.drew g) := hg
 have HO : Hid (WOwn W.drew lo g _ y) := hO.ext (S := nowhere) ((Ext.refl _ _).drew 1) (fun _ _ _ _ q => q)
 by_cases hc : (crashR (y.nodes[k]) kept).code = 0
 ·
  have HC := yh hc
  have HI := yh (hid hc)
  clear hc hid hg hO hr hcl RNs hp hp2
  generalize hnn : y.nodes[k] = n at *
  clear hnn
  go_enter Tryz.func123, Tryz.ntmps123
  go_upto_region 1 with fail
  refine wp_region_noPanic ?_
  refine wp_region_held_drew (S := fun w' => Ext (fun q => lo ≤ q ∧ q ≠ g) W w') (by kernel_rfl) ((Ext.refl _ _).drew 1) (fun zq => ?_)
  generalize W.drew = wD at zq HL HG HO x0 x1 x2 x3 x4 x5 x6 ⊢
  refine tkH (i := 0) (oi := o196x1) (v := ?vo0) rfl ?ho0 zq ?ro0
  case ho0 => intro _ _; go_simp; try with_reducible rfl
  refine tkH (i := 1) (oi := o196x2) (v := ?vo1) rfl ?ho1 zq ?ro1
  case ho1 => intro _ _; go_simp; try with_reducible rfl
  refine tkH (i := 2) (oi := o196x3) (v := ?vo2) rfl ?ho2 zq ?ro2
  case ho2 => intro _ _; go_simp; try with_reducible rfl
  refine tkH (i := 3) (oi := o196x4) (v := ?vo3) rfl ?ho3 zq ?ro3
  case ho3 => intro _ _; go_simp; try with_reducible rfl
  refine tkH (i := 4) (oi := o196x5) (v := ?vo4) rfl ?ho4 zq ?ro4
  case ho4 =>
   intro wS hSw
   have q := (cell_of_heap (hSw.block g hgl (fun e => e.2 rfl)) 4).trans g4
   clear hSw
   (try dsimp only at hSw)
   go_simp
   try with_reducible rfl
  refine tkH (i := 5) (oi := o196x6) (v := ?vo5) rfl ?ho5 zq ?ro5
  case ho5 =>
   intro wS hSw
   have q := (cell_of_heap (hSw.block p hpl (fun e => by have := e.1; omega)) 0).trans hp0
   clear hSw
   (try dsimp only at hSw)
   go_simp
   try with_reducible rfl
  refine tkH (i := 6) (oi := o196x7) (v := ?vo6) rfl ?ho6 zq ?ro6
  case ho6 => intro _ _; go_simp; try with_reducible rfl
  refine tkH (i := 7) (oi := o196x8) (v := ?vo7) rfl ?ho7 zq ?ro7
  case ho7 => intro _ _; go_simp; try with_reducible rfl
  refine tkH (i := 9) (oi := o196x9) (v := ?vo9) rfl ?ho9 zq ?ro9
  case ho9 =>
   intro wS hSw
   have q := (cell_of_heap (hSw.block p2 hp2l (fun e => by have := e.1; omega)) 0).trans hp20
   clear hSw
   (try dsimp only at hSw)
   go_simp
   try with_reducible rfl
  refine rdH (i := 8) (oi := o196x10) rfl (fun K hK => ?_)
  go_simp
  refine hK.out _ _ zq (fun zq => ?_)
  clear hK K
  try simp only [Act.put, pz, py, px]
  refine rdH (i := 10) (oi := o196x11) rfl (fun K hK => ?_)
  go_simp
  go_at_call 124
  refine (uh HL).mono ?_
  rintro e w3 ⟨us, rfl, O, hb3⟩
  try go_wp2_with fail
  refine hK.out _ _ (zq.trans (ext_of_below hb3 _)) (fun zq => ?_)
  clear hK K
  try simp only [Act.put, pz, py, px]
  refine rdH (i := 11) (oi := o196x12) rfl (fun K hK => ?_)
  go_simp
  go_at_call 109
  refine (setNode_ok g lo k _ _ _ _ y us _ wD w3 (uh HG) (uh HO) hb3 O (uh HC) hk hn5 (uh HI)).mono ?_
  rintro e w5 ⟨rfl, ⟨u3, u4, u5, u6, hgz, hOz⟩, he5⟩
  try go_wp2_with fail
  refine hK.out _ _ (zq.trans he5) (fun zq => ?_)
  clear hK K
  try simp only [Act.put, pz, py, px]
  refine tkH (i := 12) (oi := o196x13) (v := ?vo12) rfl ?ho12 zq ?ro12
  case ho12 => intro _ _; go_simp; try with_reducible rfl
  refine tkH (i := 13) (oi := o196x14) (v := ?vo13) rfl ?ho13 zq ?ro13
  case ho13 => intro _ _; go_simp; try with_reducible rfl
  refine tkH (i := 14) (oi := o196x15) (v := ?vo14) rfl ?ho14 zq ?ro14
  case ho14 => intro _ _; go_simp; try with_reducible rfl
  refine tkH (i := 15) (oi := o196x16) (v := ?vo15) rfl ?ho15 zq ?ro15
  case ho15 => intro _ _; go_simp; try with_reducible rfl
  refine wpAnyH_done (by kernel_rfl) ?_ _
  refine NoPanic.normal ?_
  have HF := yh (And.intro hgz hOz)
  have HE := yh (zq.mono (fun q _ e => e.1) : Ext (fun q => lo ≤ q) W w5)
  clear zq hgz hOz he5 hb3 O HL HG HO
  go_wp2_with fail
  go_ret2
  exact ⟨true, by rw [uh HC]; rfl, fun _ => ⟨rfl, u3, u4, u5, u6, uh HF⟩, uh HE⟩
 have HC := yh hc
 clear hc hid hg hO hr hcl RNs hp hp2
 generalize hnn : y.nodes[k] = n at *
 clear hnn
 go_enter Tryz.func123, Tryz.ntmps123
 go_upto_region 1 with fail
 refine wp_region_noPanic ?_
 refine wp_region_held_drew (S := fun w' => Ext (fun q => lo ≤ q ∧ q ≠ g) W w') (by kernel_rfl) ((Ext.refl _ _).drew 1) (fun zq => ?_)
 generalize W.drew = wD at zq HL HG HO x0 x1 x2 x3 x4 x5 x6 ⊢
 refine tkH (i := 0) (oi := o196x1) (v := ?vb0) rfl ?hb0 zq ?rb0
 case hb0 => intro _ _; go_simp; try with_reducible rfl
 refine tkH (i := 1) (oi := o196x2) (v := ?vb1) rfl ?hb1 zq ?rb1
 case hb1 => intro _ _; go_simp; try with_reducible rfl
 refine tkH (i := 2) (oi := o196x3) (v := ?vb2) rfl ?hb2 zq ?rb2
 case hb2 => intro _ _; go_simp; try with_reducible rfl
 refine tkH (i := 3) (oi := o196x4) (v := ?vb3) rfl ?hb3 zq ?rb3
 case hb3 => intro _ _; go_simp; try with_reducible rfl
 refine tkH (i := 4) (oi := o196x5) (v := ?vb4) rfl ?hb4 zq ?rb4
 case hb4 =>
  intro wS hSw
  have q := (cell_of_heap (hSw.block g hgl (fun e => e.2 rfl)) 4).trans g4
  clear hSw
  (try dsimp only at hSw)
  go_simp
  try with_reducible rfl
 refine tkH (i := 5) (oi := o196x6) (v := ?vb5) rfl ?hb5 zq ?rb5
 case hb5 =>
  intro wS hSw
  have q := (cell_of_heap (hSw.block p hpl (fun e => by have := e.1; omega)) 0).trans hp0
  clear hSw
  (try dsimp only at hSw)
  go_simp
  try with_reducible rfl
 refine tkH (i := 6) (oi := o196x7) (v := ?vb6) rfl ?hb6 zq ?rb6
 case hb6 => intro _ _; go_simp; try with_reducible rfl
 refine tkH (i := 7) (oi := o196x8) (v := ?vb7) rfl ?hb7 zq ?rb7
 case hb7 => intro _ _; go_simp; try with_reducible rfl
 refine tkH (i := 9) (oi := o196x9) (v := ?vb9) rfl ?hb9 zq ?rb9
 case hb9 =>
  intro wS hSw
  have q := (cell_of_heap (hSw.block p2 hp2l (fun e => by have := e.1; omega)) 0).trans hp20
  clear hSw
  (try dsimp only at hSw)
  go_simp
  try with_reducible rfl
 refine rdH (i := 8) (oi := o196x10) rfl (fun K hK => ?_)
 go_simp
 refine hK.out _ _ zq (fun zq => ?_)
 clear hK K
 try simp only [Act.put, pz, py, px]
 refine rdH (i := 10) (oi := o196x11) rfl (fun K hK => ?_)
 go_simp
 go_at_call 124
 refine (uh HL).mono ?_
 rintro e w3 ⟨us, rfl, O, hb3⟩
 try go_wp2_with fail
 refine hK.out _ _ (zq.trans (ext_of_below hb3 _)) (fun zq => ?_)
 clear hK K
 try simp only [Act.put, pz, py, px]
 refine rdH (i := 11) (oi := o196x12) rfl (fun K hK => ?_)
 go_simp
 go_at_call 109
 refine (setNode_bad g us _ w3 O.reads (uh HC)).mono ?_
 rintro e w5 ⟨rfl, hb5⟩
 try go_wp2_with fail
 refine hK.out _ _ (zq.trans (ext_of_below hb5 _)) (fun zq => ?_)
 clear hK K
 try simp only [Act.put, pz, py, px]
 refine tkH (i := 12) (oi := o196x13) (v := ?vb12) rfl ?hb12 zq ?rb12
 case hb12 => intro _ _; go_simp; try with_reducible rfl
 refine tkH (i := 13) (oi := o196x14) (v := ?vb13) rfl ?hb13 zq ?rb13
 case hb13 => intro _ _; go_simp; try with_reducible rfl
 refine tkH (i := 14) (oi := o196x15) (v := ?vb14) rfl ?hb14 zq ?rb14
 case hb14 => intro _ _; go_simp; try with_reducible rfl
 refine tkH (i := 15) (oi := o196x16) (v := ?vb15) rfl ?hb15 zq ?rb15
 case hb15 => intro _ _; go_simp; try with_reducible rfl
 refine wpAnyH_done (by kernel_rfl) ?_ _
 refine NoPanic.normal ?_
 have HE := yh (zq.mono (fun q _ e => e.1) : Ext (fun q => lo ≤ q) W w5)
 clear zq hb5 hb3 O HL HG HO
 go_wp2_with fail
 go_ret2
 exact ⟨false, rfl, fun h0 => absurd h0 (uh HC), uh HE⟩
theorem crashMake (id kept : Int) (w : World) :
  Calls Tryz.prog 69 #[.int .i64 id, .int .i64 kept] w fun e w' => e = .returned (.func (.func 123) #[] #[.pointer (some ⟨w.heap.size, 0, none⟩), .pointer (some ⟨w.heap.size + 1, 0, none⟩)]) ∧ w' = ((w.alloc (.cells #[.int .i64 id] 2)).alloc (.cells #[.int .i64 kept] 2)) := by
 have hmf : ∀ (fn : Fn) (first cap : Array Value) (w : World), (Instr.makeFunc fn first cap).run Tryz.prog w = .ok (.func fn first cap) w := fun _ _ _ _ => rfl
 go_enter Tryz.func69, Tryz.ntmps69
 go_wp2_with fail
 go_ret
 exact ⟨rfl, rfl⟩
theorem implCrashWorld (cs : List Value) (x : DWorld) (id kept : Int) (w : World) (h : Lay.tWorld.Reads w cs x) (hf : Fits x) :
  Calls Tryz.prog 24 #[.agg cs.toArray, .int .i64 id, .int .i64 kept] w fun e w' => ∃ cs', e = .returned (.agg cs'.toArray) ∧ Lay.tWorldResult.OwnIn w' cs' (crashWR x id kept) w.heap.size w'.heap.size ∧ Below w.heap.size w w' := by
 obtain ⟨a3, d3, a4, d4, a5, d5, a6, d6, rfl, -, -, -, -⟩ := open_World h
 have nb1 : Below w.heap.size w (w.alloc (.cells #[.int .i64 x.now, .int .i64 x.events, .int .i64 x.chain.epoch, .slice a3 x.chain.ids.length d3, .slice a4 x.nodes.length d4, .slice a5 x.msgs.length d5, .slice a6 x.history.length d6] 36)) := (Below.refl _ _).alloc (Nat.le_refl _) _
 have nb : Below w.heap.size w ((w.alloc (.cells #[.int .i64 x.now, .int .i64 x.events, .int .i64 x.chain.epoch, .slice a3 x.chain.ids.length d3, .slice a4 x.nodes.length d4, .slice a5 x.msgs.length d5, .slice a6 x.history.length d6] 36)).alloc (.cells #[.int .i64 0, .bool false, .int .i64 0, .int .i64 0, .int .i64 0, .slice none 0 0, .slice none 0 0, .slice none 0 0, .slice none 0 0] 38)) := nb1.alloc (by simp) _
 have HX : Hid (Box 0 #[.int .i64 x.now, .int .i64 x.events, .int .i64 x.chain.epoch, .slice a3 x.chain.ids.length d3, .slice a4 x.nodes.length d4, .slice a5 x.msgs.length d5, .slice a6 x.history.length d6] 36 ((w.alloc (.cells #[.int .i64 x.now, .int .i64 x.events, .int .i64 x.chain.epoch, .slice a3 x.chain.ids.length d3, .slice a4 x.nodes.length d4, .slice a5 x.msgs.length d5, .slice a6 x.history.length d6] 36)).alloc (.cells #[.int .i64 0, .bool false, .int .i64 0, .int .i64 0, .int .i64 0, .slice none 0 0, .slice none 0 0, .slice none 0 0, .slice none 0 0] 38)) w.heap.size) := (newBox (Nat.zero_le _)).grow _
 have HY : Hid (Box 0 #[.int .i64 0, .bool false, .int .i64 0, .int .i64 0, .int .i64 0, .slice none 0 0, .slice none 0 0, .slice none 0 0, .slice none 0 0] 38 ((w.alloc (.cells #[.int .i64 x.now, .int .i64 x.events, .int .i64 x.chain.epoch, .slice a3 x.chain.ids.length d3, .slice a4 x.nodes.length d4, .slice a5 x.msgs.length d5, .slice a6 x.history.length d6] 36)).alloc (.cells #[.int .i64 0, .bool false, .int .i64 0, .int .i64 0, .int .i64 0, .slice none 0 0, .slice none 0 0, .slice none 0 0, .slice none 0 0] 38)) (w.heap.size + 1)) := newBoxAt (Nat.zero_le _) (by simp)
 have hz0 : ((w.alloc (.cells #[.int .i64 x.now, .int .i64 x.events, .int .i64 x.chain.epoch, .slice a3 x.chain.ids.length d3, .slice a4 x.nodes.length d4, .slice a5 x.msgs.length d5, .slice a6 x.history.length d6] 36)).alloc (.cells #[.int .i64 0, .bool false, .int .i64 0, .int .i64 0, .int .i64 0, .slice none 0 0, .slice none 0 0, .slice none 0 0, .slice none 0 0] 38)).heap.size = w.heap.size + 2 := by simp
 have HR := yh (h.later nb)
 have HB := yh nb
 have HFT := yh hf
 clear nb1 nb h hf
 go_enter Tryz.func24, Tryz.ntmps24
 go_upto_region 1 with fail
 generalize (w.alloc (.cells #[.int .i64 x.now, .int .i64 x.events, .int .i64 x.chain.epoch, .slice a3 x.chain.ids.length d3, .slice a4 x.nodes.length d4, .slice a5 x.msgs.length d5, .slice a6 x.history.length d6] 36)).alloc (.cells #[.int .i64 0, .bool false, .int .i64 0, .int .i64 0, .int .i64 0, .slice none 0 0, .slice none 0 0, .slice none 0 0, .slice none 0 0] 38) = W1 at *
 have LI : Hid (∀ V, Below W1.heap.size W1 V → Calls Tryz.prog 57 #[.agg #[.int .i64 x.now, .int .i64 x.events, .int .i64 x.chain.epoch, .slice a3 x.chain.ids.length d3, .slice a4 x.nodes.length d4, .slice a5 x.msgs.length d5, .slice a6 x.history.length d6], .int .i64 id] V fun e w' => e = .returned (.int .i64 (idFaultR x id)) ∧ Below V.heap.size V w') := fun V hV => idFaultC _ x id V ((uh HR).later hV)
 have LS : Hid (∀ V, Below W1.heap.size W1 V → Calls Tryz.prog 56 #[.agg #[.int .i64 x.now, .int .i64 x.events, .int .i64 x.chain.epoch, .slice a3 x.chain.ids.length d3, .slice a4 x.nodes.length d4, .slice a5 x.msgs.length d5, .slice a6 x.history.length d6], .int .i64 (idFaultR x id), .func (.func 123) #[] #[.pointer (some ⟨V.heap.size, 0, none⟩), .pointer (some ⟨V.heap.size + 1, 0, none⟩)]] ((V.alloc (.cells #[.int .i64 id] 2)).alloc (.cells #[.int .i64 kept] 2)) fun e w' => ∃ cs', e = .returned (.agg cs'.toArray) ∧ Lay.tWorldResult.OwnIn w' cs' (crashWR x id kept) V.heap.size w'.heap.size ∧ Below V.heap.size V w') := by
  intro V hV
  have nv : Below V.heap.size V ((V.alloc (.cells #[.int .i64 id] 2)).alloc (.cells #[.int .i64 kept] 2)) := ((Below.refl _ _).alloc (Nat.le_refl _) _).alloc (by simp) _
  refine (steppedC 123 _ _ x (idFaultR x id) (crashR (nodeOf x id) kept).code true (putNode (nextW x) (crashR (nodeOf x id) kept).node) _ (fun a W => rfl) ((uh HR).later (hV.trans (nv.mono hV.size))) (fun h0 => worldFault_zero (idFault_zero h0).1) (uh HFT) (crashR_bd _ _) (idFault_bd x id) (fun h0 W hW => ?_)).mono ?_
  ·
   obtain ⟨h1, h2⟩ := idFault_zero h0
   have hok := worldFault_zero h1
   obtain ⟨k, hk, rfl⟩ := nodeIn_at h2
   have hn := hok.nodes k hk
   rw [nodeOf_at hk]
   exact crashStepC _ k (V.heap.size) (V.heap.size + 1) kept (nextW x) W (Box.keep ((newBox (Nat.zero_le _)).grow _) hW) (by simp; omega) (Box.keep (newBoxAt (Nat.zero_le _) (by simp)) hW) (by simp) hk hok.some.2 (crashR_id hn.1 hn.2.1 _)
  rintro e w' ⟨cs', rfl, O, hb⟩
  rw [crashW_eq] at O
  exact ⟨cs', rfl, O.mono nv.size (Nat.le_refl _), nv.trans (hb.mono nv.size)⟩
 have hx := uh HX
 have hxl := hx.lt
 have HD : Hid (Below W1.heap.size W1 W1.drew) := (Below.refl _ _).drew
 replace HY : Hid (Box 0 #[.int .i64 0, .bool false, .int .i64 0, .int .i64 0, .int .i64 0, .slice none 0 0, .slice none 0 0, .slice none 0 0, .slice none 0 0] 38 W1.drew (w.heap.size + 1)) := (uh HY)
 refine wp_region_noPanic ?_
 refine wp_region_held_drew (S := fun w' => Ext (fun q => w.heap.size < q) W1 w') (by kernel_rfl) ((Ext.refl _ _).drew 1) (fun zq => ?_)
 generalize W1.drew = wD at zq HD HY ⊢
 refine tkH (i := 0) (oi := ⟨some 7, .load 36 (.tmp 3), 36, "l12_world.go:420", #[], none⟩) (v := ?vf0) rfl ?hf0 zq ?rf0
 case hf0 =>
  intro wS hSw
  have bS := hx.ext hSw (fun e => Nat.lt_irrefl _ e)
  have q0 := Box.at bS 0 _ rfl
  have q1 := Box.at bS 1 _ rfl
  have q2 := Box.at bS 2 _ rfl
  have q3 := Box.at bS 3 _ rfl
  have q4 := Box.at bS 4 _ rfl
  have q5 := Box.at bS 5 _ rfl
  have q6 := Box.at bS 6 _ rfl
  simp only [ga, gb, gc] at q0 q1 q2 q3 q4 q5 q6
  clear bS hSw
  (try dsimp only at hSw)
  go_simp
  try with_reducible rfl
 refine tkH (i := 1) (oi := ⟨some 8, .load 36 (.tmp 3), 36, "l12_world.go:420", #[], none⟩) (v := ?vf1) rfl ?hf1 zq ?rf1
 case hf1 =>
  intro wS hSw
  have bS := hx.ext hSw (fun e => Nat.lt_irrefl _ e)
  have q0 := Box.at bS 0 _ rfl
  have q1 := Box.at bS 1 _ rfl
  have q2 := Box.at bS 2 _ rfl
  have q3 := Box.at bS 3 _ rfl
  have q4 := Box.at bS 4 _ rfl
  have q5 := Box.at bS 5 _ rfl
  have q6 := Box.at bS 6 _ rfl
  simp only [ga, gb, gc] at q0 q1 q2 q3 q4 q5 q6
  clear bS hSw
  (try dsimp only at hSw)
  go_simp
  try with_reducible rfl
 refine tkH (i := 2) (oi := ⟨some 9, .move (.tmp 1), 2, "l12_world.go:420", #[], none⟩) (v := ?vf2) rfl ?hf2 zq ?rf2
 case hf2 => intro _ _; go_simp; try with_reducible rfl
 refine tkH (i := 4) (oi := ⟨some 11, .move (.tmp 1), 2, "l12_world.go:420", #[], none⟩) (v := ?vf4) rfl ?hf4 zq ?rf4
 case hf4 => intro _ _; go_simp; try with_reducible rfl
 refine tkH (i := 5) (oi := ⟨some 12, .move (.tmp 2), 2, "l12_world.go:420", #[], none⟩) (v := ?vf5) rfl ?hf5 zq ?rf5
 case hf5 => intro _ _; go_simp; try with_reducible rfl
 refine rdH (i := 3) (oi := ⟨some 10, .call { callee := .value (.func 57), args := #[.tmp 8, .tmp 9], argTypes := #[36, 2] }, 2, "l12_world.go:420", #[⟨1, .data⟩, ⟨2, .data⟩], none⟩) rfl (fun K hK => ?_)
 go_simp
 go_at_call 57
 refine (uh LI _ (uh HD)).mono ?_
 rintro e u1 ⟨rfl, hb1⟩
 have HD1 := yh ((uh HD).trans (hb1.mono (uh HD).size))
 have HY1 := yh ((uh HY).keep hb1)
 try go_wp2_with fail
 have hH1 := zq.trans (ext_of_below hb1 (fun q => w.heap.size < q))
 refine hK.out _ _ (zq.trans (ext_of_below hb1 _)) (fun zq => ?_)
 clear hK K
 try simp only [Act.put, pz, py, px]
 refine rdH (i := 6) (oi := ⟨some 13, .call { callee := .value (.func 69), args := #[.tmp 11, .tmp 12], argTypes := #[2, 2] }, 74, "l12_world.go:420", #[⟨4, .data⟩, ⟨5, .data⟩, ⟨3, .chain⟩], none⟩) rfl (fun K hK => ?_)
 go_simp
 go_at_call 69
 refine (crashMake id kept _).mono ?_
 rintro e u2 ⟨rfl, rfl⟩
 try go_wp2_with fail
 refine hK.out _ _ (zq.trans (ext_of_below (((Below.refl _ _).alloc (Nat.le_refl _) _).alloc (by simp) _) _)) (fun zq => ?_)
 clear hK K
 try simp only [Act.put, pz, py, px]
 refine rdH (i := 7) (oi := ⟨some 14, .call { callee := .value (.func 56), args := #[.tmp 7, .tmp 10, .tmp 13], argTypes := #[36, 2, 74] }, 38, "l12_world.go:420", #[⟨0, .data⟩, ⟨3, .data⟩, ⟨6, .data⟩, ⟨6, .chain⟩], none⟩) rfl (fun K hK => ?_)
 go_simp
 go_at_call 56
 refine (uh LS u1 (uh HD1)).mono ?_
 rintro e u3 ⟨cs, rfl, O, hb3⟩
 obtain ⟨a5r, d5r, a6r, d6r, a7r, d7r, a8r, d8r, rfl, -⟩ := open_WorldResult O.reads
 have hy := (uh HY1).keep hb3
 try go_wp2_with fail
 refine hK.out _ _ (hH1.trans (ext_of_below hb3 _)) (fun zq => ?_)
 clear hK K
 try simp only [Act.put, pz, py, px]
 refine rdH (i := 8) (oi := ⟨none, .store 38 (.tmp 6) (.tmp 14), 0, "l12_world.go:420", #[⟨7, .data⟩, ⟨7, .chain⟩, ⟨0, .phase⟩, ⟨1, .phase⟩, ⟨2, .phase⟩, ⟨3, .phase⟩, ⟨4, .phase⟩, ⟨5, .phase⟩, ⟨6, .phase⟩, ⟨7, .phase⟩], none⟩) rfl (fun K hK => ?_)
 generalize hyr : crashWR x id kept = yr at *
 have HYR := yh hyr
 clear hyr
 have r0 := Box.at hy 0 _ rfl
 have r1 := Box.at hy 1 _ rfl
 have r2 := Box.at hy 2 _ rfl
 have r3 := Box.at hy 3 _ rfl
 have r4 := Box.at hy 4 _ rfl
 have r5 := Box.at hy 5 _ rfl
 have r6 := Box.at hy 6 _ rfl
 have r7 := Box.at hy 7 _ rfl
 have r8 := Box.at hy 8 _ rfl
 simp only [ga, gb, gc] at r0 r1 r2 r3 r4 r5 r6 r7 r8
 have rf := Box.soft hy
 have rl := hy.lt
 go_simp
 refine hK.out _ _ (Ext.setCell (Ext.setCell (Ext.setCell (Ext.setCell (Ext.setCell (Ext.setCell (Ext.setCell (Ext.setCell (Ext.setCell zq ⟨w.heap.size + 1, 0, none⟩ (.int .i64 yr.code) (Nat.lt_succ_self _)) ⟨w.heap.size + 1, 1, none⟩ (.bool yr.moved) (Nat.lt_succ_self _)) ⟨w.heap.size + 1, 2, none⟩ (.int .i64 yr.world.now) (Nat.lt_succ_self _)) ⟨w.heap.size + 1, 3, none⟩ (.int .i64 yr.world.events) (Nat.lt_succ_self _)) ⟨w.heap.size + 1, 4, none⟩ (.int .i64 yr.world.chain.epoch) (Nat.lt_succ_self _)) ⟨w.heap.size + 1, 5, none⟩ (.slice a5r yr.world.chain.ids.length d5r) (Nat.lt_succ_self _)) ⟨w.heap.size + 1, 6, none⟩ (.slice a6r yr.world.nodes.length d6r) (Nat.lt_succ_self _)) ⟨w.heap.size + 1, 7, none⟩ (.slice a7r yr.world.msgs.length d7r) (Nat.lt_succ_self _)) ⟨w.heap.size + 1, 8, none⟩ (.slice a8r yr.world.history.length d8r) (Nat.lt_succ_self _)) (fun zq => ?_)
 clear hK K
 try simp only [Act.put, pz, py, px]
 refine wpAnyH_done (by kernel_rfl) ?_ _
 refine NoPanic.normal ?_
 have hy9 := box_set9W hy (.int .i64 yr.code) (.bool yr.moved) (.int .i64 yr.world.now) (.int .i64 yr.world.events) (.int .i64 yr.world.chain.epoch) (.slice a5r yr.world.chain.ids.length d5r) (.slice a6r yr.world.nodes.length d6r) (.slice a7r yr.world.msgs.length d7r) (.slice a8r yr.world.history.length d8r)
 have e2 : Ext (fun q => q = w.heap.size + 1) u3 (setAll u3 (w.heap.size + 1) 0 [.int .i64 yr.code, .bool yr.moved, .int .i64 yr.world.now, .int .i64 yr.world.events, .int .i64 yr.world.chain.epoch, .slice a5r yr.world.chain.ids.length d5r, .slice a6r yr.world.nodes.length d6r, .slice a7r yr.world.msgs.length d7r, .slice a8r yr.world.history.length d8r]) := ext_setAll _ (Ext.refl _ _) _ _ _ rfl
 have hs1 := hb1.size
 have hs2 := (uh HB).size
 have hs3 := (uh HD).size
 have HO := yh (O.ext e2 (fun q h1 h2 h3 => by omega))
 have HB9 := yh (below_setAll (((uh HB).trans ((uh HD1).mono (uh HB).size)).trans (hb3.mono (by omega))) (w.heap.size + 1) 0 [.int .i64 yr.code, .bool yr.moved, .int .i64 yr.world.now, .int .i64 yr.world.events, .int .i64 yr.world.chain.epoch, .slice a5r yr.world.chain.ids.length d5r, .slice a6r yr.world.nodes.length d6r, .slice a7r yr.world.msgs.length d7r, .slice a8r yr.world.history.length d8r] (by omega))
 have hsz : Hid ((setAll u3 (w.heap.size + 1) 0 [.int .i64 yr.code, .bool yr.moved, .int .i64 yr.world.now, .int .i64 yr.world.events, .int .i64 yr.world.chain.epoch, .slice a5r yr.world.chain.ids.length d5r, .slice a6r yr.world.nodes.length d6r, .slice a7r yr.world.msgs.length d7r, .slice a8r yr.world.history.length d8r]).heap.size = u3.heap.size) := size_setAll _ _ _ _
 clear r0 r1 r2 r3 r4 r5 r6 r7 r8 rf rl
 have r0 := Box.at hy9 0 _ rfl
 have r1 := Box.at hy9 1 _ rfl
 have r2 := Box.at hy9 2 _ rfl
 have r3 := Box.at hy9 3 _ rfl
 have r4 := Box.at hy9 4 _ rfl
 have r5 := Box.at hy9 5 _ rfl
 have r6 := Box.at hy9 6 _ rfl
 have r7 := Box.at hy9 7 _ rfl
 have r8 := Box.at hy9 8 _ rfl
 simp only [ga, gb, gc] at r0 r1 r2 r3 r4 r5 r6 r7 r8
 clear hy hy9 zq e2 O hb3 hb1
 go_wp2_with fail
 refine bodyPost_ret (v := .agg #[.int .i64 yr.code, .bool yr.moved, .int .i64 yr.world.now, .int .i64 yr.world.events, .int .i64 yr.world.chain.epoch, .slice a5r yr.world.chain.ids.length d5r, .slice a6r yr.world.nodes.length d6r, .slice a7r yr.world.msgs.length d7r, .slice a8r yr.world.history.length d8r]) (by simp only [setAll] at r0 r1 r2 r3 r4 r5 r6 r7 r8; simp [results, Tryz.results24, go_sem, r0, r1, r2, r3, r4, r5, r6, r7, r8]) rfl ?_
 rw [uh HYR]
 exact ⟨_, rfl, (uh HO).mono (by omega) (Nat.le_of_eq (uh hsz).symm), uh HB9⟩
theorem writes_few9 {ws : List DWrite} (h : ∀ x ∈ ws, wF x = 0) : cntAll Lay.tWrite.cnt ws ≤ 10 * ws.length := by
 induction ws with
 | nil => simp [cntAll]
 | cons x xs ih =>
  have h1 := ih fun y hy => h y (List.mem_cons_of_mem _ hy)
  have h2 : x.vec.length ≤ 3 := by
   obtain ⟨-, -, -, hk⟩ := writeFault_zero (h x (by simp))
   rcases hk with ⟨-, hv⟩ | ⟨-, hv⟩
   ·
    have := (vecFault_zero hv).1; omega
   rw [hv]; simp
  have h3 : Lay.tWrite.cnt x = x.vec.length + 4 := by
   have e : cntAll Lay.int.cnt x.vec = x.vec.length := by
    generalize x.vec = l
    induction l with
    | nil => rfl
    | cons y ys ihy => simp only [cntAll, List.length_cons, ihy]; show 1 + ys.length = _; omega
   show 1 + (1 + (cntAll Lay.int.cnt x.vec + (1 + 1))) = _
   omega
  simp only [cntAll, List.length_cons]
  omega
theorem ints_cnt (l : List Int) : cntAll Lay.int.cnt l = l.length := by
 induction l with
 | nil => rfl
 | cons y ys ih => simp only [cntAll, List.length_cons, ih]; show 1 + ys.length = _; omega
structure FewW (y : DWorld) : Prop where
 ids : y.chain.ids.length ≤ 1000
 len : y.nodes.length ≤ 1000
 nodes : ∀ n ∈ y.nodes, n.writes.length ≤ 1000 ∧ ∀ v ∈ n.writes, wF v = 0
 mlen : y.msgs.length ≤ 1000
 msgs : ∀ m ∈ y.msgs, m.write.vec.length ≤ 1000
 hist : cntAll Lay.tEntry.cnt y.history ≤ 20000000
theorem nodes_cnt {ns : List DNode} (h : ∀ n ∈ ns, n.writes.length ≤ 1000 ∧ ∀ v ∈ n.writes, wF v = 0) : cntAll Lay.tNode.cnt ns ≤ 10006 * ns.length := by
 induction ns with
 | nil => simp [cntAll]
 | cons n ns ih =>
  have h1 := ih fun m hm => h m (List.mem_cons_of_mem _ hm)
  obtain ⟨h2, h3⟩ := h n (by simp)
  have h4 := writes_few9 h3
  have h5 : Lay.tNode.cnt n = cntAll Lay.tWrite.cnt n.writes + 6 := by
   show 1 + (1 + (1 + (1 + (cntAll Lay.tWrite.cnt n.writes + (1 + 1))))) = _
   omega
  simp only [cntAll, List.length_cons]
  omega
theorem msg_vec9 {x : DMsg} (h : msgFault x = 0) : x.write.vec.length ≤ 3 := by
 unfold msgFault at h
 split at h
 ·
  simp at h
 rename_i h1
 split at h
 ·
  simp at h
 split at h
 ·
  rename_i h3
  have h4 : noW x.write := Decidable.byContradiction fun q => h1 (Or.inr (Or.inr ⟨h3, q⟩))
  have := h4.2.2.2.2
  omega
 obtain ⟨-, -, -, hk⟩ := writeFault_zero h
 rcases hk with ⟨-, hv⟩ | ⟨-, hv⟩
 ·
  have := (vecFault_zero hv).1; omega
 rw [hv]; simp
theorem msgs_cnt {ms : List DMsg} (h : ∀ m ∈ ms, m.write.vec.length ≤ 1000) : cntAll Lay.tMsg.cnt ms ≤ 1009 * ms.length := by
 induction ms with
 | nil => simp [cntAll]
 | cons m ms ih =>
  have h1 := ih fun q hq => h q (List.mem_cons_of_mem _ hq)
  have h2 := h m (by simp)
  have h5 : Lay.tMsg.cnt m = m.write.vec.length + 9 := by
   show 1 + (1 + (1 + (1 + (1 + (1 + (1 + (cntAll Lay.int.cnt m.write.vec + (1 + 1)))))))) = _
   rw [ints_cnt]
   omega
  simp only [cntAll, List.length_cons]
  omega
theorem hits_cnt (hs : List DHit) : cntAll Lay.tHit.cnt hs = 2 * hs.length := by
 induction hs with
 | nil => rfl
 | cons y ys ih => simp only [cntAll, List.length_cons, ih]; show 1 + 1 + 2 * ys.length = _; omega
theorem entries_cnt (es : List DEntry) : cntAll Lay.tEntry.cnt es ≤ 8 * es.length + 2 * cntAll Lay.tEntry.sz es := by
 induction es with
 | nil => simp [cntAll]
 | cons e es ih =>
  have h1 : Lay.tEntry.cnt e = 8 + e.query.length + e.vec.length + 2 * e.hits.length := by
   show 1 + (1 + (1 + (1 + (cntAll Lay.int.cnt e.query + (1 + (1 + (1 + (1 + (cntAll Lay.int.cnt e.vec + cntAll Lay.tHit.cnt e.hits))))))))) = _
   rw [ints_cnt, ints_cnt, hits_cnt]
   omega
  have h2 : e.query.length + e.vec.length + e.hits.length ≤ Lay.tEntry.sz e := by
   show _ ≤ 0 + (0 + (0 + (0 + ((e.query.length + cntAll Lay.int.sz e.query) + (0 + (0 + (0 + (0 + ((e.vec.length + cntAll Lay.int.sz e.vec) + (e.hits.length + cntAll Lay.tHit.sz e.hits))))))))))
   omega
  simp only [cntAll, List.length_cons]
  omega
theorem askedW_ok {x : DWorld} {id : Int} (h : askedW x id = 0) : worldFault x = 0 := by
 unfold askedW at h
 split at h
 ·
  rename_i q; exact absurd h q
 rename_i q; simpa using q
theorem few_of_ok {x : DWorld} (h : WorldOK x) (hs : Lay.tWorld.sz x ≤ 1048576) : FewW x := by
 have hx : Lay.tWorld.sz x = 0 + (0 + ((0 + (x.chain.ids.length + cntAll Lay.int.sz x.chain.ids)) + ((x.nodes.length + cntAll Lay.tNode.sz x.nodes) + ((x.msgs.length + cntAll Lay.tMsg.sz x.msgs) + (x.history.length + cntAll Lay.tEntry.sz x.history))))) := rfl
 have h1 := (chainFault_zero h.chain).len
 have h2 := entries_cnt x.history
 refine ⟨by omega, by have := h.some; omega, fun n hn => ?_, by have := (netFault_zero h.net).1; omega, fun m hm => ?_, by omega⟩
 ·
  obtain ⟨k, hk, rfl⟩ := List.getElem_of_mem hn
  have hok := nodeFault_zero (h.nodes k hk).1
  exact ⟨by have := hok.len; omega, hok.ws⟩
 have := msg_vec9 ((netFault_zero h.net).2 m hm)
 omega
theorem few_vcnt {y : DWorldResult} (h : FewW y.world) : Lay.tWorldResult.vcnt y ≤ 100000000 := by
 rw [vcnt_WorldResult, vcnt_World, vcnt_Chain]
 show cntAll Lay.int.cnt y.world.chain.ids + cntAll Lay.tNode.cnt y.world.nodes + cntAll Lay.tMsg.cnt y.world.msgs + cntAll Lay.tEntry.cnt y.world.history ≤ 100000000
 rw [ints_cnt]
 have h1 := nodes_cnt h.nodes
 have h2 := msgs_cnt h.msgs
 have h3 := h.ids
 have h4 := h.len
 have h5 := h.mlen
 have h6 := h.hist
 omega
theorem badW_few (c : Int) : Lay.tWorldResult.vcnt (badWorld c) ≤ 100000000 := few_vcnt ⟨by simp [badWorld, noWorld, noChain], by simp [badWorld, noWorld], by simp [badWorld, noWorld], by simp [badWorld, noWorld], by simp [badWorld, noWorld], by simp [badWorld, noWorld, cntAll]⟩
theorem few_next {x : DWorld} (h : FewW x) : FewW (nextW x) := ⟨h.ids, h.len, h.nodes, h.mlen, h.msgs, h.hist⟩
theorem few_setN {y : DWorld} {k : Nat} {n : DNode} (h : FewW y) (hn : n.writes.length ≤ 1000 ∧ ∀ v ∈ n.writes, wF v = 0) : FewW (setN y k n) := by
 refine ⟨h.ids, by show (y.nodes.set k n).length ≤ 1000; simpa using h.len, fun m hm => ?_, h.mlen, h.msgs, h.hist⟩
 rcases List.mem_or_eq_of_mem_set hm with q | rfl
 ·
  exact h.nodes m q
 exact hn
theorem few_put {y : DWorld} {n : DNode} (h : FewW y) (hn : n.writes.length ≤ 1000 ∧ ∀ v ∈ n.writes, wF v = 0) : FewW (putNode y n) := few_setN (k := (n.id - 1).toNat) h hn
theorem putWR_few {x : DWorld} {r : DNodeResult} (h : FewW x) (hr : r.code = 0 → r.node.writes.length ≤ 1000 ∧ ∀ v ∈ r.node.writes, wF v = 0) : Lay.tWorldResult.vcnt (putWR x r) ≤ 100000000 := by
 unfold putWR
 split
 ·
  exact badW_few _
 rename_i q
 exact few_vcnt (few_put (few_next h) (hr (by simpa using q)))
theorem crashR_ws (n : DNode) (k : Int) : (crashR n k).node.writes.length ≤ 1000 ∧ ∀ v ∈ (crashR n k).node.writes, wF v = 0 := by
 unfold crashR
 split
 ·
  rename_i h
  have hok := (askedN_zero h).1
  split
  ·
   exact ⟨by have := hok.len; simp only [crashN, List.length_take]; omega, fun y hy => hok.ws y (List.mem_of_mem_take hy)⟩
  exact ⟨by simp [badNode, noNode], fun v hv => by simp [badNode, noNode] at hv⟩
 exact ⟨by simp [badNode, noNode], fun v hv => by simp [badNode, noNode] at hv⟩
theorem crashWR_few {x : DWorld} {id k : Int} (hs : Lay.tWorld.sz x ≤ 1048576) : Lay.tWorldResult.vcnt (crashWR x id k) ≤ 100000000 := by
 unfold crashWR
 split
 ·
  exact badW_few _
 rename_i q
 exact putWR_few (few_of_ok (worldFault_zero (askedW_ok (by simpa using q))) hs) (fun _ => crashR_ws _ _)
theorem lawCrashWorld (cs : List Value) (x : DWorld) (id kept : Int) (w : World) (h : Lay.tWorld.Reads w cs x) :
  Calls Tryz.prog 4 #[.agg cs.toArray, .int .i64 id, .int .i64 kept] w fun e w' => e = .returned (.bool true) ∧ Below w.heap.size w w' := by
 by_cases hn : Lay.tWorld.sz x ≤ 1048576
 ·
  refine lawx_CrashWorld cs x id kept (crashWR x id kept) w h hn (fun W a ha => specCrashWorld a x id kept W ha (fits_of_sz hn)) (fun W a ha => implCrashWorld a x id kept W ha (fits_of_sz hn)) (crashWR_few hn)
 exact lawover_CrashWorld cs x id kept w h (by omega)
theorem opens_Chain : Opens Lay.tChain 24 := by
 intro H enc W base spare held fuel cs x h
 obtain ⟨xs, n, _, _, hlen, hl, hfi⟩ := DataW.trod_struct Tryz.underlying24 h
 rw [show Tryz.prog.cellsOf 24 = 2 by kernel_rfl] at hlen
 match cs, hlen with
 | [c0, c1], _ =>
 match xs, hl with
 | [y0, y1], _ =>
 have z0 : Tryz.prog.cellsOf 2 = 1 := by kernel_rfl
 have z1 : Tryz.prog.cellsOf 22 = 1 := by kernel_rfl
 have f0 : DataW.trod enc Tryz.prog W base spare held n 2 (([c0, c1].drop 0).take (Tryz.prog.cellsOf 2)) = some y0 := hfi 0 _ rfl
 rw [z0] at f0
 obtain ⟨d0, r0⟩ := (opens_int Tryz.underlying2) enc W base spare held n _ _ f0
 have f1 : DataW.trod enc Tryz.prog W base spare held n 22 (([c0, c1].drop 1).take (Tryz.prog.cellsOf 22)) = some y1 := hfi 1 _ rfl
 rw [z1] at f1
 obtain ⟨d1, r1⟩ := (opens_sl Tryz.underlying22 (by kernel_rfl) (by decide) (opens_int Tryz.underlying2)) enc W base spare held n _ _ f1
 exact ⟨⟨d0, d1⟩, (reads_pair r0 r1)⟩
theorem opens_Write : Opens Lay.tWrite 116 := by
 intro H enc W base spare held fuel cs x h
 obtain ⟨xs, n, _, _, hlen, hl, hfi⟩ := DataW.trod_struct Tryz.underlying116 h
 rw [show Tryz.prog.cellsOf 116 = 5 by kernel_rfl] at hlen
 match cs, hlen with
 | [c0, c1, c2, c3, c4], _ =>
 match xs, hl with
 | [y0, y1, y2, y3, y4], _ =>
 have z0 : Tryz.prog.cellsOf 2 = 1 := by kernel_rfl
 have z1 : Tryz.prog.cellsOf 22 = 1 := by kernel_rfl
 have f0 : DataW.trod enc Tryz.prog W base spare held n 2 (([c0, c1, c2, c3, c4].drop 0).take (Tryz.prog.cellsOf 2)) = some y0 := hfi 0 _ rfl
 rw [z0] at f0
 obtain ⟨d0, r0⟩ := (opens_int Tryz.underlying2) enc W base spare held n _ _ f0
 have f1 : DataW.trod enc Tryz.prog W base spare held n 2 (([c0, c1, c2, c3, c4].drop 1).take (Tryz.prog.cellsOf 2)) = some y1 := hfi 1 _ rfl
 rw [z0] at f1
 obtain ⟨d1, r1⟩ := (opens_int Tryz.underlying2) enc W base spare held n _ _ f1
 have f2 : DataW.trod enc Tryz.prog W base spare held n 22 (([c0, c1, c2, c3, c4].drop 2).take (Tryz.prog.cellsOf 22)) = some y2 := hfi 2 _ rfl
 rw [z1] at f2
 obtain ⟨d2, r2⟩ := (opens_sl Tryz.underlying22 (by kernel_rfl) (by decide) (opens_int Tryz.underlying2)) enc W base spare held n _ _ f2
 have f3 : DataW.trod enc Tryz.prog W base spare held n 2 (([c0, c1, c2, c3, c4].drop 3).take (Tryz.prog.cellsOf 2)) = some y3 := hfi 3 _ rfl
 rw [z0] at f3
 obtain ⟨d3, r3⟩ := (opens_int Tryz.underlying2) enc W base spare held n _ _ f3
 have f4 : DataW.trod enc Tryz.prog W base spare held n 2 (([c0, c1, c2, c3, c4].drop 4).take (Tryz.prog.cellsOf 2)) = some y4 := hfi 4 _ rfl
 rw [z0] at f4
 obtain ⟨d4, r4⟩ := (opens_int Tryz.underlying2) enc W base spare held n _ _ f4
 exact ⟨⟨d0, d1, d2, d3, d4⟩, (reads_pair r0 (reads_pair r1 (reads_pair r2 (reads_pair r3 r4))))⟩
theorem opens_Node : Opens Lay.tNode 114 := by
 intro H enc W base spare held fuel cs x h
 obtain ⟨xs, n, _, _, hlen, hl, hfi⟩ := DataW.trod_struct Tryz.underlying114 h
 rw [show Tryz.prog.cellsOf 114 = 7 by kernel_rfl] at hlen
 match cs, hlen with
 | [c0, c1, c2, c3, c4, c5, c6], _ =>
 match xs, hl with
 | [y0, y1, y2, y3, y4, y5, y6], _ =>
 have z0 : Tryz.prog.cellsOf 2 = 1 := by kernel_rfl
 have z1 : Tryz.prog.cellsOf 4 = 1 := by kernel_rfl
 have z2 : Tryz.prog.cellsOf 112 = 1 := by kernel_rfl
 have f0 : DataW.trod enc Tryz.prog W base spare held n 2 (([c0, c1, c2, c3, c4, c5, c6].drop 0).take (Tryz.prog.cellsOf 2)) = some y0 := hfi 0 _ rfl
 rw [z0] at f0
 obtain ⟨d0, r0⟩ := (opens_int Tryz.underlying2) enc W base spare held n _ _ f0
 have f1 : DataW.trod enc Tryz.prog W base spare held n 4 (([c0, c1, c2, c3, c4, c5, c6].drop 1).take (Tryz.prog.cellsOf 4)) = some y1 := hfi 1 _ rfl
 rw [z1] at f1
 obtain ⟨d1, r1⟩ := (opens_bool Tryz.underlying4) enc W base spare held n _ _ f1
 have f2 : DataW.trod enc Tryz.prog W base spare held n 2 (([c0, c1, c2, c3, c4, c5, c6].drop 2).take (Tryz.prog.cellsOf 2)) = some y2 := hfi 2 _ rfl
 rw [z0] at f2
 obtain ⟨d2, r2⟩ := (opens_int Tryz.underlying2) enc W base spare held n _ _ f2
 have f3 : DataW.trod enc Tryz.prog W base spare held n 2 (([c0, c1, c2, c3, c4, c5, c6].drop 3).take (Tryz.prog.cellsOf 2)) = some y3 := hfi 3 _ rfl
 rw [z0] at f3
 obtain ⟨d3, r3⟩ := (opens_int Tryz.underlying2) enc W base spare held n _ _ f3
 have f4 : DataW.trod enc Tryz.prog W base spare held n 112 (([c0, c1, c2, c3, c4, c5, c6].drop 4).take (Tryz.prog.cellsOf 112)) = some y4 := hfi 4 _ rfl
 rw [z2] at f4
 obtain ⟨d4, r4⟩ := (opens_sl Tryz.underlying112 (by kernel_rfl) (by decide) opens_Write) enc W base spare held n _ _ f4
 have f5 : DataW.trod enc Tryz.prog W base spare held n 2 (([c0, c1, c2, c3, c4, c5, c6].drop 5).take (Tryz.prog.cellsOf 2)) = some y5 := hfi 5 _ rfl
 rw [z0] at f5
 obtain ⟨d5, r5⟩ := (opens_int Tryz.underlying2) enc W base spare held n _ _ f5
 have f6 : DataW.trod enc Tryz.prog W base spare held n 2 (([c0, c1, c2, c3, c4, c5, c6].drop 6).take (Tryz.prog.cellsOf 2)) = some y6 := hfi 6 _ rfl
 rw [z0] at f6
 obtain ⟨d6, r6⟩ := (opens_int Tryz.underlying2) enc W base spare held n _ _ f6
 exact ⟨⟨d0, d1, d2, d3, d4, d5, d6⟩, (reads_pair r0 (reads_pair r1 (reads_pair r2 (reads_pair r3 (reads_pair r4 (reads_pair r5 r6))))))⟩
theorem opens_Msg : Opens Lay.tMsg 118 := by
 intro H enc W base spare held fuel cs x h
 obtain ⟨xs, n, _, _, hlen, hl, hfi⟩ := DataW.trod_struct Tryz.underlying118 h
 rw [show Tryz.prog.cellsOf 118 = 10 by kernel_rfl] at hlen
 match cs, hlen with
 | [c0, c1, c2, c3, c4, c5, c6, c7, c8, c9], _ =>
 match xs, hl with
 | [y0, y1, y2, y3, y4, y5], _ =>
 have z0 : Tryz.prog.cellsOf 2 = 1 := by kernel_rfl
 have z1 : Tryz.prog.cellsOf 116 = 5 := by kernel_rfl
 have f0 : DataW.trod enc Tryz.prog W base spare held n 2 (([c0, c1, c2, c3, c4, c5, c6, c7, c8, c9].drop 0).take (Tryz.prog.cellsOf 2)) = some y0 := hfi 0 _ rfl
 rw [z0] at f0
 obtain ⟨d0, r0⟩ := (opens_int Tryz.underlying2) enc W base spare held n _ _ f0
 have f1 : DataW.trod enc Tryz.prog W base spare held n 2 (([c0, c1, c2, c3, c4, c5, c6, c7, c8, c9].drop 1).take (Tryz.prog.cellsOf 2)) = some y1 := hfi 1 _ rfl
 rw [z0] at f1
 obtain ⟨d1, r1⟩ := (opens_int Tryz.underlying2) enc W base spare held n _ _ f1
 have f2 : DataW.trod enc Tryz.prog W base spare held n 2 (([c0, c1, c2, c3, c4, c5, c6, c7, c8, c9].drop 2).take (Tryz.prog.cellsOf 2)) = some y2 := hfi 2 _ rfl
 rw [z0] at f2
 obtain ⟨d2, r2⟩ := (opens_int Tryz.underlying2) enc W base spare held n _ _ f2
 have f3 : DataW.trod enc Tryz.prog W base spare held n 2 (([c0, c1, c2, c3, c4, c5, c6, c7, c8, c9].drop 3).take (Tryz.prog.cellsOf 2)) = some y3 := hfi 3 _ rfl
 rw [z0] at f3
 obtain ⟨d3, r3⟩ := (opens_int Tryz.underlying2) enc W base spare held n _ _ f3
 have f4 : DataW.trod enc Tryz.prog W base spare held n 2 (([c0, c1, c2, c3, c4, c5, c6, c7, c8, c9].drop 4).take (Tryz.prog.cellsOf 2)) = some y4 := hfi 4 _ rfl
 rw [z0] at f4
 obtain ⟨d4, r4⟩ := (opens_int Tryz.underlying2) enc W base spare held n _ _ f4
 have f5 : DataW.trod enc Tryz.prog W base spare held n 116 (([c0, c1, c2, c3, c4, c5, c6, c7, c8, c9].drop 5).take (Tryz.prog.cellsOf 116)) = some y5 := hfi 5 _ rfl
 rw [z1] at f5
 obtain ⟨d5, r5⟩ := (opens_Write) enc W base spare held n _ _ f5
 exact ⟨⟨d0, d1, d2, d3, d4, d5⟩, (reads_pair r0 (reads_pair r1 (reads_pair r2 (reads_pair r3 (reads_pair r4 r5)))))⟩
theorem opens_Hit : Opens Lay.tHit 219 := by
 intro H enc W base spare held fuel cs x h
 obtain ⟨xs, n, _, _, hlen, hl, hfi⟩ := DataW.trod_struct Tryz.underlying219 h
 rw [show Tryz.prog.cellsOf 219 = 2 by kernel_rfl] at hlen
 match cs, hlen with
 | [c0, c1], _ =>
 match xs, hl with
 | [y0, y1], _ =>
 have z0 : Tryz.prog.cellsOf 2 = 1 := by kernel_rfl
 have f0 : DataW.trod enc Tryz.prog W base spare held n 2 (([c0, c1].drop 0).take (Tryz.prog.cellsOf 2)) = some y0 := hfi 0 _ rfl
 rw [z0] at f0
 obtain ⟨d0, r0⟩ := (opens_int Tryz.underlying2) enc W base spare held n _ _ f0
 have f1 : DataW.trod enc Tryz.prog W base spare held n 2 (([c0, c1].drop 1).take (Tryz.prog.cellsOf 2)) = some y1 := hfi 1 _ rfl
 rw [z0] at f1
 obtain ⟨d1, r1⟩ := (opens_int Tryz.underlying2) enc W base spare held n _ _ f1
 exact ⟨⟨d0, d1⟩, (reads_pair r0 r1)⟩
theorem opens_Entry : Opens Lay.tEntry 122 := by
 intro H enc W base spare held fuel cs x h
 obtain ⟨xs, n, _, _, hlen, hl, hfi⟩ := DataW.trod_struct Tryz.underlying122 h
 rw [show Tryz.prog.cellsOf 122 = 11 by kernel_rfl] at hlen
 match cs, hlen with
 | [c0, c1, c2, c3, c4, c5, c6, c7, c8, c9, c10], _ =>
 match xs, hl with
 | [y0, y1, y2, y3, y4, y5, y6, y7, y8, y9, y10], _ =>
 have z0 : Tryz.prog.cellsOf 2 = 1 := by kernel_rfl
 have z1 : Tryz.prog.cellsOf 22 = 1 := by kernel_rfl
 have z2 : Tryz.prog.cellsOf 120 = 1 := by kernel_rfl
 have f0 : DataW.trod enc Tryz.prog W base spare held n 2 (([c0, c1, c2, c3, c4, c5, c6, c7, c8, c9, c10].drop 0).take (Tryz.prog.cellsOf 2)) = some y0 := hfi 0 _ rfl
 rw [z0] at f0
 obtain ⟨d0, r0⟩ := (opens_int Tryz.underlying2) enc W base spare held n _ _ f0
 have f1 : DataW.trod enc Tryz.prog W base spare held n 2 (([c0, c1, c2, c3, c4, c5, c6, c7, c8, c9, c10].drop 1).take (Tryz.prog.cellsOf 2)) = some y1 := hfi 1 _ rfl
 rw [z0] at f1
 obtain ⟨d1, r1⟩ := (opens_int Tryz.underlying2) enc W base spare held n _ _ f1
 have f2 : DataW.trod enc Tryz.prog W base spare held n 2 (([c0, c1, c2, c3, c4, c5, c6, c7, c8, c9, c10].drop 2).take (Tryz.prog.cellsOf 2)) = some y2 := hfi 2 _ rfl
 rw [z0] at f2
 obtain ⟨d2, r2⟩ := (opens_int Tryz.underlying2) enc W base spare held n _ _ f2
 have f3 : DataW.trod enc Tryz.prog W base spare held n 2 (([c0, c1, c2, c3, c4, c5, c6, c7, c8, c9, c10].drop 3).take (Tryz.prog.cellsOf 2)) = some y3 := hfi 3 _ rfl
 rw [z0] at f3
 obtain ⟨d3, r3⟩ := (opens_int Tryz.underlying2) enc W base spare held n _ _ f3
 have f4 : DataW.trod enc Tryz.prog W base spare held n 22 (([c0, c1, c2, c3, c4, c5, c6, c7, c8, c9, c10].drop 4).take (Tryz.prog.cellsOf 22)) = some y4 := hfi 4 _ rfl
 rw [z1] at f4
 obtain ⟨d4, r4⟩ := (opens_sl Tryz.underlying22 (by kernel_rfl) (by decide) (opens_int Tryz.underlying2)) enc W base spare held n _ _ f4
 have f5 : DataW.trod enc Tryz.prog W base spare held n 2 (([c0, c1, c2, c3, c4, c5, c6, c7, c8, c9, c10].drop 5).take (Tryz.prog.cellsOf 2)) = some y5 := hfi 5 _ rfl
 rw [z0] at f5
 obtain ⟨d5, r5⟩ := (opens_int Tryz.underlying2) enc W base spare held n _ _ f5
 have f6 : DataW.trod enc Tryz.prog W base spare held n 2 (([c0, c1, c2, c3, c4, c5, c6, c7, c8, c9, c10].drop 6).take (Tryz.prog.cellsOf 2)) = some y6 := hfi 6 _ rfl
 rw [z0] at f6
 obtain ⟨d6, r6⟩ := (opens_int Tryz.underlying2) enc W base spare held n _ _ f6
 have f7 : DataW.trod enc Tryz.prog W base spare held n 2 (([c0, c1, c2, c3, c4, c5, c6, c7, c8, c9, c10].drop 7).take (Tryz.prog.cellsOf 2)) = some y7 := hfi 7 _ rfl
 rw [z0] at f7
 obtain ⟨d7, r7⟩ := (opens_int Tryz.underlying2) enc W base spare held n _ _ f7
 have f8 : DataW.trod enc Tryz.prog W base spare held n 2 (([c0, c1, c2, c3, c4, c5, c6, c7, c8, c9, c10].drop 8).take (Tryz.prog.cellsOf 2)) = some y8 := hfi 8 _ rfl
 rw [z0] at f8
 obtain ⟨d8, r8⟩ := (opens_int Tryz.underlying2) enc W base spare held n _ _ f8
 have f9 : DataW.trod enc Tryz.prog W base spare held n 22 (([c0, c1, c2, c3, c4, c5, c6, c7, c8, c9, c10].drop 9).take (Tryz.prog.cellsOf 22)) = some y9 := hfi 9 _ rfl
 rw [z1] at f9
 obtain ⟨d9, r9⟩ := (opens_sl Tryz.underlying22 (by kernel_rfl) (by decide) (opens_int Tryz.underlying2)) enc W base spare held n _ _ f9
 have f10 : DataW.trod enc Tryz.prog W base spare held n 120 (([c0, c1, c2, c3, c4, c5, c6, c7, c8, c9, c10].drop 10).take (Tryz.prog.cellsOf 120)) = some y10 := hfi 10 _ rfl
 rw [z2] at f10
 obtain ⟨d10, r10⟩ := (opens_sl Tryz.underlying120 (by kernel_rfl) (by decide) opens_Hit) enc W base spare held n _ _ f10
 exact ⟨⟨d0, d1, d2, d3, d4, d5, d6, d7, d8, d9, d10⟩, (reads_pair r0 (reads_pair r1 (reads_pair r2 (reads_pair r3 (reads_pair r4 (reads_pair r5 (reads_pair r6 (reads_pair r7 (reads_pair r8 (reads_pair r9 r10))))))))))⟩
theorem opens_World : Opens Lay.tWorld 29 := by
 intro H enc W base spare held fuel cs x h
 obtain ⟨xs, n, _, _, hlen, hl, hfi⟩ := DataW.trod_struct Tryz.underlying29 h
 rw [show Tryz.prog.cellsOf 29 = 7 by kernel_rfl] at hlen
 match cs, hlen with
 | [c0, c1, c2, c3, c4, c5, c6], _ =>
 match xs, hl with
 | [y0, y1, y2, y3, y4, y5], _ =>
 have z0 : Tryz.prog.cellsOf 2 = 1 := by kernel_rfl
 have z1 : Tryz.prog.cellsOf 24 = 2 := by kernel_rfl
 have z2 : Tryz.prog.cellsOf 25 = 1 := by kernel_rfl
 have z3 : Tryz.prog.cellsOf 26 = 1 := by kernel_rfl
 have z4 : Tryz.prog.cellsOf 27 = 1 := by kernel_rfl
 have f0 : DataW.trod enc Tryz.prog W base spare held n 2 (([c0, c1, c2, c3, c4, c5, c6].drop 0).take (Tryz.prog.cellsOf 2)) = some y0 := hfi 0 _ rfl
 rw [z0] at f0
 obtain ⟨d0, r0⟩ := (opens_int Tryz.underlying2) enc W base spare held n _ _ f0
 have f1 : DataW.trod enc Tryz.prog W base spare held n 2 (([c0, c1, c2, c3, c4, c5, c6].drop 1).take (Tryz.prog.cellsOf 2)) = some y1 := hfi 1 _ rfl
 rw [z0] at f1
 obtain ⟨d1, r1⟩ := (opens_int Tryz.underlying2) enc W base spare held n _ _ f1
 have f2 : DataW.trod enc Tryz.prog W base spare held n 24 (([c0, c1, c2, c3, c4, c5, c6].drop 2).take (Tryz.prog.cellsOf 24)) = some y2 := hfi 2 _ rfl
 rw [z1] at f2
 obtain ⟨d2, r2⟩ := (opens_Chain) enc W base spare held n _ _ f2
 have f3 : DataW.trod enc Tryz.prog W base spare held n 25 (([c0, c1, c2, c3, c4, c5, c6].drop 4).take (Tryz.prog.cellsOf 25)) = some y3 := hfi 3 _ rfl
 rw [z2] at f3
 obtain ⟨d3, r3⟩ := (opens_sl Tryz.underlying25 (by kernel_rfl) (by decide) opens_Node) enc W base spare held n _ _ f3
 have f4 : DataW.trod enc Tryz.prog W base spare held n 26 (([c0, c1, c2, c3, c4, c5, c6].drop 5).take (Tryz.prog.cellsOf 26)) = some y4 := hfi 4 _ rfl
 rw [z3] at f4
 obtain ⟨d4, r4⟩ := (opens_sl Tryz.underlying26 (by kernel_rfl) (by decide) opens_Msg) enc W base spare held n _ _ f4
 have f5 : DataW.trod enc Tryz.prog W base spare held n 27 (([c0, c1, c2, c3, c4, c5, c6].drop 6).take (Tryz.prog.cellsOf 27)) = some y5 := hfi 5 _ rfl
 rw [z4] at f5
 obtain ⟨d5, r5⟩ := (opens_sl Tryz.underlying27 (by kernel_rfl) (by decide) opens_Entry) enc W base spare held n _ _ f5
 exact ⟨⟨d0, d1, d2, d3, d4, d5⟩, (reads_pair r0 (reads_pair r1 (reads_pair r2 (reads_pair r3 (reads_pair r4 r5)))))⟩
end Go.Proofs.YtdnhmoppineegaaGreat
