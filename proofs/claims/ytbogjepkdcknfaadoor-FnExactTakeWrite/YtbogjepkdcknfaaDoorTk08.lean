/-
  Texts of this proof in one: ImplNodeM, ImplTakeW, NodeFew, LawTakeN, OpenWrite, OpenNode.
  Their conditions stand in their theorems.
-/
import Derived.Test.YtbogjepkdcknfaaDoorTk07
import Derived.Deep.RegionHeld3
import Derived.Test.YtbogjepkdcknfaaDoorTk04
import Derived.Test.YtbogjepkdcknfaaDoorTk01
import Derived.Test.YtbogjepkdcknfaaDoorTk02
import Derived.Test.YtbogjepkdcknfaaDoorTk03
import Derived.Test.YtbogjepkdcknfaaDoorTk06

namespace Go.Proofs.YtbogjepkdcknfaaDoor
open Go.RowKit

theorem learn_val (a b i : Int) : (if a < (if b < i then b else i) then (if b < i then b else i) else a) = max a (min i b) := by
  by_cases h : b < i
  · rw [if_pos h]; split <;> omega
  · rw [if_neg h]; split <;> omega
set_option maxRecDepth 10000 in
set_option maxHeartbeats 2000000 in
theorem toldC (g : Nat) (a : Option Addr) (n c : Nat) (x : DNode) (w : World) (h : HeldAt w g (.slice a n c) x) :
    Calls Tryd.prog 27 #[.pointer (some ⟨g, 0, none⟩)] w fun e w' => e = .returned (.agg #[.int .i64 x.id, .bool x.up, .int .i64 x.epoch, .int .i64 x.lease, .slice a n c, .int .i64 x.sure, .int .i64 x.clean]) ∧ Below w.heap.size w w' := by
  have k0 := Box.at h 0 _ rfl
  have k1 := Box.at h 1 _ rfl
  have k2 := Box.at h 2 _ rfl
  have k3 := Box.at h 3 _ rfl
  have k4 := Box.at h 4 _ rfl
  have k5 := Box.at h 5 _ rfl
  have k6 := Box.at h 6 _ rfl
  simp only [List.getElem_toArray, List.getElem_cons_zero, List.getElem_cons_succ] at k0 k1 k2 k3 k4 k5 k6
  have hgl := h.lt
  have HB0 := hide ((Below.refl w.heap.size w).alloc (Nat.le_refl _) (.cells #[.int .i64 0, .bool false, .int .i64 0, .int .i64 0, .slice none 0 0, .int .i64 0, .int .i64 0] 32))
  have hRD : Box 0 #[.int .i64 0, .bool false, .int .i64 0, .int .i64 0, .slice none 0 0, .int .i64 0, .int .i64 0] 32 (w.alloc (.cells #[.int .i64 0, .bool false, .int .i64 0, .int .i64 0, .slice none 0 0, .int .i64 0, .int .i64 0] 32)).drew w.heap.size := (newBox (Nat.zero_le _)).drew
  clear h
  go_enter Tryd.func27, Tryd.ntmps27
  go_wp2_with fail
  generalize w.alloc (.cells #[.int .i64 0, .bool false, .int .i64 0, .int .i64 0, .slice none 0 0, .int .i64 0, .int .i64 0] 32) = W0 at *
  refine wp_region_noPanic ?_
  refine wp_region_held_drew (S := fun w' => Below w.heap.size w w') (by kernel_rfl) (unhide HB0).drew (fun hHeld => ?_)
  generalize W0.drew = wD at hHeld hRD ⊢
  refine wpAnyH_take (i := 0) (oi := { dst := some 3, op := Go.Op.move (Go.Operand.tmp 0), type := 57, pos := "l09_node.go:148", after := #[], guard := none }) (v := ?vt0) rfl (by kernel_rfl) (by kernel_rfl) (by kernel_rfl) (fun _ _ _ h => h) (Or.inl ⟨by rfl, ?ht0⟩) hHeld ?rt0
  case ht0 =>
    intro wS hSw
    (try dsimp only at hSw)
    go_simp
    try with_reducible rfl
  case rt0 =>
  simp only [Act.put, List.setIfInBounds_toArray, List.set_cons_zero, List.set_cons_succ]
  refine wpAnyH_take (i := 1) (oi := { dst := some 4, op := Go.Op.nilCheck (Go.Operand.tmp 3), type := 0, pos := "l09_node.go:148", after := #[{ on := 0, ground := Go.Ground.data }], guard := none }) (v := ?vt1) rfl (by kernel_rfl) (by kernel_rfl) (by kernel_rfl) (fun _ _ _ h => h) (Or.inl ⟨by rfl, ?ht1⟩) hHeld ?rt1
  case ht1 =>
    intro wS hSw
    (try dsimp only at hSw)
    go_simp
    try with_reducible rfl
  case rt1 =>
  simp only [Act.put, List.setIfInBounds_toArray, List.set_cons_zero, List.set_cons_succ]
  refine wpAnyH_take (i := 2) (oi := { dst := some 5, op := Go.Op.fieldAddr 64 (Go.Operand.tmp 4) 1, type := 0, pos := "l09_node.go:148", after := #[{ on := 1, ground := Go.Ground.data }], guard := none }) (v := ?vt2) rfl (by kernel_rfl) (by kernel_rfl) (by kernel_rfl) (fun _ _ _ h => h) (Or.inl ⟨by rfl, ?ht2⟩) hHeld ?rt2
  case ht2 =>
    intro wS hSw
    (try dsimp only at hSw)
    go_simp
    try with_reducible rfl
  case rt2 =>
  simp only [Act.put, List.setIfInBounds_toArray, List.set_cons_zero, List.set_cons_succ]
  refine wpAnyH_take (i := 3) (oi := { dst := some 6, op := Go.Op.load 2 (Go.Operand.tmp 5), type := 2, pos := "l09_node.go:148", after := #[{ on := 2, ground := Go.Ground.data }], guard := none }) (v := ?vt3) rfl (by kernel_rfl) (by kernel_rfl) (by kernel_rfl) (fun _ _ _ h => h) (Or.inl ⟨by rfl, ?ht3⟩) hHeld ?rt3
  case ht3 =>
    intro wS hSw
    have y2 : wS.cell? ⟨g, 2, none⟩ = some (.int .i64 x.id) := (hSw.cell (p := ⟨g, 2, none⟩) hgl).trans k2
    clear hSw
    (try dsimp only at hSw)
    go_simp
    try with_reducible rfl
  case rt3 =>
  simp only [Act.put, List.setIfInBounds_toArray, List.set_cons_zero, List.set_cons_succ]
  refine wpAnyH_take (i := 4) (oi := { dst := some 7, op := Go.Op.move (Go.Operand.tmp 0), type := 57, pos := "l09_node.go:148", after := #[], guard := none }) (v := ?vt4) rfl (by kernel_rfl) (by kernel_rfl) (by kernel_rfl) (fun _ _ _ h => h) (Or.inl ⟨by rfl, ?ht4⟩) hHeld ?rt4
  case ht4 =>
    intro wS hSw
    (try dsimp only at hSw)
    go_simp
    try with_reducible rfl
  case rt4 =>
  simp only [Act.put, List.setIfInBounds_toArray, List.set_cons_zero, List.set_cons_succ]
  refine wpAnyH_take (i := 5) (oi := { dst := some 8, op := Go.Op.nilCheck (Go.Operand.tmp 7), type := 0, pos := "l09_node.go:148", after := #[{ on := 4, ground := Go.Ground.data }], guard := none }) (v := ?vt5) rfl (by kernel_rfl) (by kernel_rfl) (by kernel_rfl) (fun _ _ _ h => h) (Or.inl ⟨by rfl, ?ht5⟩) hHeld ?rt5
  case ht5 =>
    intro wS hSw
    (try dsimp only at hSw)
    go_simp
    try with_reducible rfl
  case rt5 =>
  simp only [Act.put, List.setIfInBounds_toArray, List.set_cons_zero, List.set_cons_succ]
  refine wpAnyH_take (i := 6) (oi := { dst := some 9, op := Go.Op.fieldAddr 64 (Go.Operand.tmp 8) 2, type := 0, pos := "l09_node.go:148", after := #[{ on := 5, ground := Go.Ground.data }], guard := none }) (v := ?vt6) rfl (by kernel_rfl) (by kernel_rfl) (by kernel_rfl) (fun _ _ _ h => h) (Or.inl ⟨by rfl, ?ht6⟩) hHeld ?rt6
  case ht6 =>
    intro wS hSw
    (try dsimp only at hSw)
    go_simp
    try with_reducible rfl
  case rt6 =>
  simp only [Act.put, List.setIfInBounds_toArray, List.set_cons_zero, List.set_cons_succ]
  refine wpAnyH_take (i := 7) (oi := { dst := some 10, op := Go.Op.load 4 (Go.Operand.tmp 9), type := 4, pos := "l09_node.go:148", after := #[{ on := 6, ground := Go.Ground.data }], guard := none }) (v := ?vt7) rfl (by kernel_rfl) (by kernel_rfl) (by kernel_rfl) (fun _ _ _ h => h) (Or.inl ⟨by rfl, ?ht7⟩) hHeld ?rt7
  case ht7 =>
    intro wS hSw
    have y3 : wS.cell? ⟨g, 3, none⟩ = some (.bool x.up) := (hSw.cell (p := ⟨g, 3, none⟩) hgl).trans k3
    clear hSw
    (try dsimp only at hSw)
    go_simp
    try with_reducible rfl
  case rt7 =>
  simp only [Act.put, List.setIfInBounds_toArray, List.set_cons_zero, List.set_cons_succ]
  refine wpAnyH_take (i := 8) (oi := { dst := some 11, op := Go.Op.move (Go.Operand.tmp 0), type := 57, pos := "l09_node.go:148", after := #[], guard := none }) (v := ?vt8) rfl (by kernel_rfl) (by kernel_rfl) (by kernel_rfl) (fun _ _ _ h => h) (Or.inl ⟨by rfl, ?ht8⟩) hHeld ?rt8
  case ht8 =>
    intro wS hSw
    (try dsimp only at hSw)
    go_simp
    try with_reducible rfl
  case rt8 =>
  simp only [Act.put, List.setIfInBounds_toArray, List.set_cons_zero, List.set_cons_succ]
  refine wpAnyH_take (i := 9) (oi := { dst := some 12, op := Go.Op.nilCheck (Go.Operand.tmp 11), type := 0, pos := "l09_node.go:148", after := #[{ on := 8, ground := Go.Ground.data }], guard := none }) (v := ?vt9) rfl (by kernel_rfl) (by kernel_rfl) (by kernel_rfl) (fun _ _ _ h => h) (Or.inl ⟨by rfl, ?ht9⟩) hHeld ?rt9
  case ht9 =>
    intro wS hSw
    (try dsimp only at hSw)
    go_simp
    try with_reducible rfl
  case rt9 =>
  simp only [Act.put, List.setIfInBounds_toArray, List.set_cons_zero, List.set_cons_succ]
  refine wpAnyH_take (i := 10) (oi := { dst := some 13, op := Go.Op.fieldAddr 64 (Go.Operand.tmp 12) 3, type := 0, pos := "l09_node.go:148", after := #[{ on := 9, ground := Go.Ground.data }], guard := none }) (v := ?vt10) rfl (by kernel_rfl) (by kernel_rfl) (by kernel_rfl) (fun _ _ _ h => h) (Or.inl ⟨by rfl, ?ht10⟩) hHeld ?rt10
  case ht10 =>
    intro wS hSw
    (try dsimp only at hSw)
    go_simp
    try with_reducible rfl
  case rt10 =>
  simp only [Act.put, List.setIfInBounds_toArray, List.set_cons_zero, List.set_cons_succ]
  refine wpAnyH_take (i := 11) (oi := { dst := some 14, op := Go.Op.load 2 (Go.Operand.tmp 13), type := 2, pos := "l09_node.go:148", after := #[{ on := 10, ground := Go.Ground.data }], guard := none }) (v := ?vt11) rfl (by kernel_rfl) (by kernel_rfl) (by kernel_rfl) (fun _ _ _ h => h) (Or.inl ⟨by rfl, ?ht11⟩) hHeld ?rt11
  case ht11 =>
    intro wS hSw
    have y4 : wS.cell? ⟨g, 4, none⟩ = some (.int .i64 x.epoch) := (hSw.cell (p := ⟨g, 4, none⟩) hgl).trans k4
    clear hSw
    (try dsimp only at hSw)
    go_simp
    try with_reducible rfl
  case rt11 =>
  simp only [Act.put, List.setIfInBounds_toArray, List.set_cons_zero, List.set_cons_succ]
  refine wpAnyH_take (i := 12) (oi := { dst := some 15, op := Go.Op.move (Go.Operand.tmp 0), type := 57, pos := "l09_node.go:148", after := #[], guard := none }) (v := ?vt12) rfl (by kernel_rfl) (by kernel_rfl) (by kernel_rfl) (fun _ _ _ h => h) (Or.inl ⟨by rfl, ?ht12⟩) hHeld ?rt12
  case ht12 =>
    intro wS hSw
    (try dsimp only at hSw)
    go_simp
    try with_reducible rfl
  case rt12 =>
  simp only [Act.put, List.setIfInBounds_toArray, List.set_cons_zero, List.set_cons_succ]
  refine wpAnyH_take (i := 13) (oi := { dst := some 16, op := Go.Op.nilCheck (Go.Operand.tmp 15), type := 0, pos := "l09_node.go:148", after := #[{ on := 12, ground := Go.Ground.data }], guard := none }) (v := ?vt13) rfl (by kernel_rfl) (by kernel_rfl) (by kernel_rfl) (fun _ _ _ h => h) (Or.inl ⟨by rfl, ?ht13⟩) hHeld ?rt13
  case ht13 =>
    intro wS hSw
    (try dsimp only at hSw)
    go_simp
    try with_reducible rfl
  case rt13 =>
  simp only [Act.put, List.setIfInBounds_toArray, List.set_cons_zero, List.set_cons_succ]
  refine wpAnyH_take (i := 14) (oi := { dst := some 17, op := Go.Op.fieldAddr 64 (Go.Operand.tmp 16) 4, type := 0, pos := "l09_node.go:148", after := #[{ on := 13, ground := Go.Ground.data }], guard := none }) (v := ?vt14) rfl (by kernel_rfl) (by kernel_rfl) (by kernel_rfl) (fun _ _ _ h => h) (Or.inl ⟨by rfl, ?ht14⟩) hHeld ?rt14
  case ht14 =>
    intro wS hSw
    (try dsimp only at hSw)
    go_simp
    try with_reducible rfl
  case rt14 =>
  simp only [Act.put, List.setIfInBounds_toArray, List.set_cons_zero, List.set_cons_succ]
  refine wpAnyH_take (i := 15) (oi := { dst := some 18, op := Go.Op.load 2 (Go.Operand.tmp 17), type := 2, pos := "l09_node.go:148", after := #[{ on := 14, ground := Go.Ground.data }], guard := none }) (v := ?vt15) rfl (by kernel_rfl) (by kernel_rfl) (by kernel_rfl) (fun _ _ _ h => h) (Or.inl ⟨by rfl, ?ht15⟩) hHeld ?rt15
  case ht15 =>
    intro wS hSw
    have y5 : wS.cell? ⟨g, 5, none⟩ = some (.int .i64 x.lease) := (hSw.cell (p := ⟨g, 5, none⟩) hgl).trans k5
    clear hSw
    (try dsimp only at hSw)
    go_simp
    try with_reducible rfl
  case rt15 =>
  simp only [Act.put, List.setIfInBounds_toArray, List.set_cons_zero, List.set_cons_succ]
  refine wpAnyH_take (i := 16) (oi := { dst := some 19, op := Go.Op.move (Go.Operand.tmp 0), type := 57, pos := "l09_node.go:148", after := #[], guard := none }) (v := ?vt16) rfl (by kernel_rfl) (by kernel_rfl) (by kernel_rfl) (fun _ _ _ h => h) (Or.inl ⟨by rfl, ?ht16⟩) hHeld ?rt16
  case ht16 =>
    intro wS hSw
    (try dsimp only at hSw)
    go_simp
    try with_reducible rfl
  case rt16 =>
  simp only [Act.put, List.setIfInBounds_toArray, List.set_cons_zero, List.set_cons_succ]
  refine wpAnyH_take (i := 17) (oi := { dst := some 20, op := Go.Op.nilCheck (Go.Operand.tmp 19), type := 0, pos := "l09_node.go:148", after := #[{ on := 16, ground := Go.Ground.data }], guard := none }) (v := ?vt17) rfl (by kernel_rfl) (by kernel_rfl) (by kernel_rfl) (fun _ _ _ h => h) (Or.inl ⟨by rfl, ?ht17⟩) hHeld ?rt17
  case ht17 =>
    intro wS hSw
    (try dsimp only at hSw)
    go_simp
    try with_reducible rfl
  case rt17 =>
  simp only [Act.put, List.setIfInBounds_toArray, List.set_cons_zero, List.set_cons_succ]
  refine wpAnyH_take (i := 18) (oi := { dst := some 21, op := Go.Op.fieldAddr 64 (Go.Operand.tmp 20) 0, type := 0, pos := "l09_node.go:148", after := #[{ on := 17, ground := Go.Ground.data }], guard := none }) (v := ?vt18) rfl (by kernel_rfl) (by kernel_rfl) (by kernel_rfl) (fun _ _ _ h => h) (Or.inl ⟨by rfl, ?ht18⟩) hHeld ?rt18
  case ht18 =>
    intro wS hSw
    (try dsimp only at hSw)
    go_simp
    try with_reducible rfl
  case rt18 =>
  simp only [Act.put, List.setIfInBounds_toArray, List.set_cons_zero, List.set_cons_succ]
  refine wpAnyH_take (i := 19) (oi := { dst := some 22, op := Go.Op.fieldAddr 62 (Go.Operand.tmp 21) 0, type := 0, pos := "l09_node.go:148", after := #[{ on := 18, ground := Go.Ground.data }], guard := none }) (v := ?vt19) rfl (by kernel_rfl) (by kernel_rfl) (by kernel_rfl) (fun _ _ _ h => h) (Or.inl ⟨by rfl, ?ht19⟩) hHeld ?rt19
  case ht19 =>
    intro wS hSw
    (try dsimp only at hSw)
    go_simp
    try with_reducible rfl
  case rt19 =>
  simp only [Act.put, List.setIfInBounds_toArray, List.set_cons_zero, List.set_cons_succ]
  refine wpAnyH_take (i := 20) (oi := { dst := some 23, op := Go.Op.load 30 (Go.Operand.tmp 22), type := 30, pos := "l09_node.go:148", after := #[{ on := 19, ground := Go.Ground.data }], guard := none }) (v := ?vt20) rfl (by kernel_rfl) (by kernel_rfl) (by kernel_rfl) (fun _ _ _ h => h) (Or.inl ⟨by rfl, ?ht20⟩) hHeld ?rt20
  case ht20 =>
    intro wS hSw
    have y0 : wS.cell? ⟨g, 0, none⟩ = some (.slice a n c) := (hSw.cell (p := ⟨g, 0, none⟩) hgl).trans k0
    clear hSw
    (try dsimp only at hSw)
    go_simp
    try with_reducible rfl
  case rt20 =>
  simp only [Act.put, List.setIfInBounds_toArray, List.set_cons_zero, List.set_cons_succ]
  refine wpAnyH_take (i := 21) (oi := { dst := some 24, op := Go.Op.move (Go.Operand.tmp 0), type := 57, pos := "l09_node.go:148", after := #[], guard := none }) (v := ?vt21) rfl (by kernel_rfl) (by kernel_rfl) (by kernel_rfl) (fun _ _ _ h => h) (Or.inl ⟨by rfl, ?ht21⟩) hHeld ?rt21
  case ht21 =>
    intro wS hSw
    (try dsimp only at hSw)
    go_simp
    try with_reducible rfl
  case rt21 =>
  simp only [Act.put, List.setIfInBounds_toArray, List.set_cons_zero, List.set_cons_succ]
  refine wpAnyH_take (i := 22) (oi := { dst := some 25, op := Go.Op.nilCheck (Go.Operand.tmp 24), type := 0, pos := "l09_node.go:148", after := #[{ on := 21, ground := Go.Ground.data }], guard := none }) (v := ?vt22) rfl (by kernel_rfl) (by kernel_rfl) (by kernel_rfl) (fun _ _ _ h => h) (Or.inl ⟨by rfl, ?ht22⟩) hHeld ?rt22
  case ht22 =>
    intro wS hSw
    (try dsimp only at hSw)
    go_simp
    try with_reducible rfl
  case rt22 =>
  simp only [Act.put, List.setIfInBounds_toArray, List.set_cons_zero, List.set_cons_succ]
  refine wpAnyH_take (i := 23) (oi := { dst := some 26, op := Go.Op.fieldAddr 64 (Go.Operand.tmp 25) 0, type := 0, pos := "l09_node.go:148", after := #[{ on := 22, ground := Go.Ground.data }], guard := none }) (v := ?vt23) rfl (by kernel_rfl) (by kernel_rfl) (by kernel_rfl) (fun _ _ _ h => h) (Or.inl ⟨by rfl, ?ht23⟩) hHeld ?rt23
  case ht23 =>
    intro wS hSw
    (try dsimp only at hSw)
    go_simp
    try with_reducible rfl
  case rt23 =>
  simp only [Act.put, List.setIfInBounds_toArray, List.set_cons_zero, List.set_cons_succ]
  refine wpAnyH_take (i := 24) (oi := { dst := some 27, op := Go.Op.fieldAddr 62 (Go.Operand.tmp 26) 1, type := 0, pos := "l09_node.go:148", after := #[{ on := 23, ground := Go.Ground.data }], guard := none }) (v := ?vt24) rfl (by kernel_rfl) (by kernel_rfl) (by kernel_rfl) (fun _ _ _ h => h) (Or.inl ⟨by rfl, ?ht24⟩) hHeld ?rt24
  case ht24 =>
    intro wS hSw
    (try dsimp only at hSw)
    go_simp
    try with_reducible rfl
  case rt24 =>
  simp only [Act.put, List.setIfInBounds_toArray, List.set_cons_zero, List.set_cons_succ]
  refine wpAnyH_take (i := 25) (oi := { dst := some 28, op := Go.Op.load 2 (Go.Operand.tmp 27), type := 2, pos := "l09_node.go:148", after := #[{ on := 24, ground := Go.Ground.data }], guard := none }) (v := ?vt25) rfl (by kernel_rfl) (by kernel_rfl) (by kernel_rfl) (fun _ _ _ h => h) (Or.inl ⟨by rfl, ?ht25⟩) hHeld ?rt25
  case ht25 =>
    intro wS hSw
    have y1 : wS.cell? ⟨g, 1, none⟩ = some (.int .i64 x.sure) := (hSw.cell (p := ⟨g, 1, none⟩) hgl).trans k1
    clear hSw
    (try dsimp only at hSw)
    go_simp
    try with_reducible rfl
  case rt25 =>
  simp only [Act.put, List.setIfInBounds_toArray, List.set_cons_zero, List.set_cons_succ]
  refine wpAnyH_take (i := 26) (oi := { dst := some 29, op := Go.Op.move (Go.Operand.tmp 0), type := 57, pos := "l09_node.go:148", after := #[], guard := none }) (v := ?vt26) rfl (by kernel_rfl) (by kernel_rfl) (by kernel_rfl) (fun _ _ _ h => h) (Or.inl ⟨by rfl, ?ht26⟩) hHeld ?rt26
  case ht26 =>
    intro wS hSw
    (try dsimp only at hSw)
    go_simp
    try with_reducible rfl
  case rt26 =>
  simp only [Act.put, List.setIfInBounds_toArray, List.set_cons_zero, List.set_cons_succ]
  refine wpAnyH_take (i := 27) (oi := { dst := some 30, op := Go.Op.nilCheck (Go.Operand.tmp 29), type := 0, pos := "l09_node.go:148", after := #[{ on := 26, ground := Go.Ground.data }], guard := none }) (v := ?vt27) rfl (by kernel_rfl) (by kernel_rfl) (by kernel_rfl) (fun _ _ _ h => h) (Or.inl ⟨by rfl, ?ht27⟩) hHeld ?rt27
  case ht27 =>
    intro wS hSw
    (try dsimp only at hSw)
    go_simp
    try with_reducible rfl
  case rt27 =>
  simp only [Act.put, List.setIfInBounds_toArray, List.set_cons_zero, List.set_cons_succ]
  refine wpAnyH_take (i := 28) (oi := { dst := some 31, op := Go.Op.fieldAddr 64 (Go.Operand.tmp 30) 5, type := 0, pos := "l09_node.go:148", after := #[{ on := 27, ground := Go.Ground.data }], guard := none }) (v := ?vt28) rfl (by kernel_rfl) (by kernel_rfl) (by kernel_rfl) (fun _ _ _ h => h) (Or.inl ⟨by rfl, ?ht28⟩) hHeld ?rt28
  case ht28 =>
    intro wS hSw
    (try dsimp only at hSw)
    go_simp
    try with_reducible rfl
  case rt28 =>
  simp only [Act.put, List.setIfInBounds_toArray, List.set_cons_zero, List.set_cons_succ]
  refine wpAnyH_take (i := 29) (oi := { dst := some 32, op := Go.Op.load 2 (Go.Operand.tmp 31), type := 2, pos := "l09_node.go:148", after := #[{ on := 28, ground := Go.Ground.data }], guard := none }) (v := ?vt29) rfl (by kernel_rfl) (by kernel_rfl) (by kernel_rfl) (fun _ _ _ h => h) (Or.inl ⟨by rfl, ?ht29⟩) hHeld ?rt29
  case ht29 =>
    intro wS hSw
    have y6 : wS.cell? ⟨g, 6, none⟩ = some (.int .i64 x.clean) := (hSw.cell (p := ⟨g, 6, none⟩) hgl).trans k6
    clear hSw
    (try dsimp only at hSw)
    go_simp
    try with_reducible rfl
  case rt29 =>
  simp only [Act.put, List.setIfInBounds_toArray, List.set_cons_zero, List.set_cons_succ]
  refine wpAnyH_take (i := 30) (oi := { dst := some 33, op := Go.Op.build 32 #[(0, Go.Operand.tmp 6), (1, Go.Operand.tmp 10), (2, Go.Operand.tmp 14), (3, Go.Operand.tmp 18), (4, Go.Operand.tmp 23), (5, Go.Operand.tmp 28), (6, Go.Operand.tmp 32)], type := 32, pos := "l09_node.go:148", after := #[{ on := 3, ground := Go.Ground.data }, { on := 7, ground := Go.Ground.data }, { on := 11, ground := Go.Ground.data }, { on := 15, ground := Go.Ground.data }, { on := 20, ground := Go.Ground.data }, { on := 25, ground := Go.Ground.data }, { on := 29, ground := Go.Ground.data }], guard := none }) (v := ?vt30) rfl (by kernel_rfl) (by kernel_rfl) (by kernel_rfl) (fun _ _ _ h => h) (Or.inl ⟨by rfl, ?ht30⟩) hHeld ?rt30
  case ht30 =>
    intro wS hSw
    (try dsimp only at hSw)
    go_simp
    try with_reducible rfl
  case rt30 =>
  simp only [Act.put, List.setIfInBounds_toArray, List.set_cons_zero, List.set_cons_succ]
  refine wpAnyH_ready (rs := [31]) (by kernel_rfl) (by simp) ?_
  refine AllReadyH.cons (o := { dst := none, op := Go.Op.store 32 (Go.Operand.tmp 2) (Go.Operand.tmp 33), type := 0, pos := "l09_node.go:148", after := #[{ on := 30, ground := Go.Ground.data }, { on := 0, ground := Go.Ground.phase }, { on := 1, ground := Go.Ground.phase }, { on := 2, ground := Go.Ground.phase }, { on := 3, ground := Go.Ground.phase }, { on := 4, ground := Go.Ground.phase }, { on := 5, ground := Go.Ground.phase }, { on := 6, ground := Go.Ground.phase }, { on := 7, ground := Go.Ground.phase }, { on := 8, ground := Go.Ground.phase }, { on := 9, ground := Go.Ground.phase }, { on := 10, ground := Go.Ground.phase }, { on := 11, ground := Go.Ground.phase }, { on := 12, ground := Go.Ground.phase }, { on := 13, ground := Go.Ground.phase }, { on := 14, ground := Go.Ground.phase }, { on := 15, ground := Go.Ground.phase }, { on := 16, ground := Go.Ground.phase }, { on := 17, ground := Go.Ground.phase }, { on := 18, ground := Go.Ground.phase }, { on := 19, ground := Go.Ground.phase }, { on := 20, ground := Go.Ground.phase }, { on := 21, ground := Go.Ground.phase }, { on := 22, ground := Go.Ground.phase }, { on := 23, ground := Go.Ground.phase }, { on := 24, ground := Go.Ground.phase }, { on := 25, ground := Go.Ground.phase }, { on := 26, ground := Go.Ground.phase }, { on := 27, ground := Go.Ground.phase }, { on := 28, ground := Go.Ground.phase }, { on := 29, ground := Go.Ground.phase }, { on := 30, ground := Go.Ground.phase }], guard := none }) rfl (fun K hK => ?_) AllReadyH.nil
  have z0 := Box.at hRD 0 _ rfl
  have z1 := Box.at hRD 1 _ rfl
  have z2 := Box.at hRD 2 _ rfl
  have z3 := Box.at hRD 3 _ rfl
  have z4 := Box.at hRD 4 _ rfl
  have z5 := Box.at hRD 5 _ rfl
  have z6 := Box.at hRD 6 _ rfl
  simp only [List.getElem_toArray, List.getElem_cons_zero, List.getElem_cons_succ] at z0 z1 z2 z3 z4 z5 z6
  have ff := Box.soft hRD
  have l0 := Box.lt hRD
  go_simp
  try go_wp2_with fail
  refine hK.out _ _ (below_setAll hHeld w.heap.size 0 [.int .i64 x.id, .bool x.up, .int .i64 x.epoch, .int .i64 x.lease, .slice a n c, .int .i64 x.sure, .int .i64 x.clean] (Nat.le_refl _)) (fun hHeld => ?_)
  clear hK K
  try simp only [Act.put, List.setIfInBounds_toArray, List.set_cons_zero, List.set_cons_succ]
  refine wpAnyH_done (by kernel_rfl) ?_ _
  refine NoPanic.normal ?_
  have HB9 := hide (hHeld)
  clear hHeld
  go_wp2_with fail
  refine bodyPost_ret (v := .agg #[.int .i64 x.id, .bool x.up, .int .i64 x.epoch, .int .i64 x.lease, .slice a n c, .int .i64 x.sure, .int .i64 x.clean]) (by simp [results, Tryd.results27, go_sem, z0, z1, z2, z3, z4, z5, z6]) rfl ?_
  exact ⟨rfl, unhide HB9⟩
end Go.Proofs.YtbogjepkdcknfaaDoor

namespace Go.Proofs.YtbogjepkdcknfaaDoor
open Go.RowKit

set_option maxRecDepth 10000 in
set_option maxHeartbeats 4000000 in
theorem implTakeWrite (cs : List Value) (x : DNode) (us : List Value) (y : DWrite) (w : World) (hE : Errs w) (h : Lay.tNode.Reads w cs x) (hy : Lay.tWrite.Reads w us y) :
    Calls Tryd.prog 9 #[.agg cs.toArray, .agg us.toArray] w fun e w' => ∃ cs, e = .returned (.agg cs.toArray) ∧ Lay.tNodeResult.OwnIn w' cs (takeR x y) w.heap.size w'.heap.size ∧ Below w.heap.size w w' := by
  have hN := h
  have hV := hy
  obtain ⟨a4, d4, rfl, R4⟩ := open_Node h
  obtain ⟨a2, d2, rfl, R2⟩ := open_Write hy
  clear h hy
  have nb : Below w.heap.size w (((w.alloc (.cells #[.int .i64 x.id, .bool x.up, .int .i64 x.epoch, .int .i64 x.lease, .slice a4 x.writes.length d4, .int .i64 x.sure, .int .i64 x.clean] 32)).alloc (.cells #[.int .i64 y.kind, .int .i64 y.id, .slice a2 y.vec.length d2, .int .i64 y.session, .int .i64 y.seq] 37)).alloc (.cells #[.int .i64 0, .int .i64 0, .int .i64 0, .bool false, .int .i64 0, .int .i64 0, .slice none 0 0, .int .i64 0, .int .i64 0] 34)) := (((Below.refl _ _).alloc (Nat.le_refl _) _).alloc (by simp) _).alloc (by simp; omega) _
  have bX : Box 0 #[.int .i64 x.id, .bool x.up, .int .i64 x.epoch, .int .i64 x.lease, .slice a4 x.writes.length d4, .int .i64 x.sure, .int .i64 x.clean] 32 (((w.alloc (.cells #[.int .i64 x.id, .bool x.up, .int .i64 x.epoch, .int .i64 x.lease, .slice a4 x.writes.length d4, .int .i64 x.sure, .int .i64 x.clean] 32)).alloc (.cells #[.int .i64 y.kind, .int .i64 y.id, .slice a2 y.vec.length d2, .int .i64 y.session, .int .i64 y.seq] 37)).alloc (.cells #[.int .i64 0, .int .i64 0, .int .i64 0, .bool false, .int .i64 0, .int .i64 0, .slice none 0 0, .int .i64 0, .int .i64 0] 34)) w.heap.size := ((newBox (Nat.zero_le _)).grow _).grow _
  have bY : Box 0 #[.int .i64 y.kind, .int .i64 y.id, .slice a2 y.vec.length d2, .int .i64 y.session, .int .i64 y.seq] 37 (((w.alloc (.cells #[.int .i64 x.id, .bool x.up, .int .i64 x.epoch, .int .i64 x.lease, .slice a4 x.writes.length d4, .int .i64 x.sure, .int .i64 x.clean] 32)).alloc (.cells #[.int .i64 y.kind, .int .i64 y.id, .slice a2 y.vec.length d2, .int .i64 y.session, .int .i64 y.seq] 37)).alloc (.cells #[.int .i64 0, .int .i64 0, .int .i64 0, .bool false, .int .i64 0, .int .i64 0, .slice none 0 0, .int .i64 0, .int .i64 0] 34)) (w.heap.size + 1) := (newBoxAt (Nat.zero_le _) (by simp)).grow _
  have bR : Box 0 #[.int .i64 0, .int .i64 0, .int .i64 0, .bool false, .int .i64 0, .int .i64 0, .slice none 0 0, .int .i64 0, .int .i64 0] 34 (((w.alloc (.cells #[.int .i64 x.id, .bool x.up, .int .i64 x.epoch, .int .i64 x.lease, .slice a4 x.writes.length d4, .int .i64 x.sure, .int .i64 x.clean] 32)).alloc (.cells #[.int .i64 y.kind, .int .i64 y.id, .slice a2 y.vec.length d2, .int .i64 y.session, .int .i64 y.seq] 37)).alloc (.cells #[.int .i64 0, .int .i64 0, .int .i64 0, .bool false, .int .i64 0, .int .i64 0, .slice none 0 0, .int .i64 0, .int .i64 0] 34)) (w.heap.size + 2) := newBoxAt (Nat.zero_le _) (by simp)
  by_cases hf : askedN x = 0
  · have hok := (askedN_zero hf).1
    have HL := hide (upNode_ok _ x _ (hN.later nb) hf)
    have HA := hide hf
    have HOK := hide hok
    have HB0 := hide nb
    have HR0 := hide bR
    have HY0 := hide bY
    have HV := hide hV
    have HE := hide hE
    clear hN nb bR bY bX R4 R2 hf hok hV hE
    go_enter Tryd.func9, Tryd.ntmps9
    go_wp2_with fail
    generalize ((w.alloc (.cells #[.int .i64 x.id, .bool x.up, .int .i64 x.epoch, .int .i64 x.lease, .slice a4 x.writes.length d4, .int .i64 x.sure, .int .i64 x.clean] 32)).alloc (.cells #[.int .i64 y.kind, .int .i64 y.id, .slice a2 y.vec.length d2, .int .i64 y.session, .int .i64 y.seq] 37)).alloc (.cells #[.int .i64 0, .int .i64 0, .int .i64 0, .bool false, .int .i64 0, .int .i64 0, .slice none 0 0, .int .i64 0, .int .i64 0] 34) = W0 at *
    refine (unhide HL).mono ?_
    rintro e w1 ⟨g, gw, rfl, hH, O, hg, hb⟩
    have hgr : w.heap.size + 2 < g := by have := (unhide HR0).lt; omega
    have hBD : Below w.heap.size w w1.drew := ((unhide HB0).trans (hb.mono (unhide HB0).size)).drew
    have hHD : HeldAt w1.drew g (.slice (some ⟨gw, 0, none⟩) x.writes.length x.writes.length) x := hH
    have hOD : (Lay.sl Lay.tWrite).OwnIn w1.drew [.slice (some ⟨gw, 0, none⟩) x.writes.length x.writes.length] x.writes (g + 1) w1.heap.size := O.later (Below.refl _ _).drew
    have hRD : Box 0 #[.int .i64 0, .int .i64 0, .int .i64 0, .bool false, .int .i64 0, .int .i64 0, .slice none 0 0, .int .i64 0, .int .i64 0] 34 w1.drew (w.heap.size + 2) := ((unhide HR0).keep hb).drew
    have bY1 := (unhide HY0).keep hb
    have q0 := Box.at bY1 0 _ rfl
    have q1 := Box.at bY1 1 _ rfl
    have q2 := Box.at bY1 2 _ rfl
    have q3 := Box.at bY1 3 _ rfl
    have q4 := Box.at bY1 4 _ rfl
    simp only [List.getElem_toArray, List.getElem_cons_zero, List.getElem_cons_succ] at q0 q1 q2 q3 q4
    have hyl := bY1.lt
    have hE := unhide HE
    have hV := unhide HV
    clear hb HL HB0 HR0 HY0 hH O hg bY1 HE HV
    go_wp2_with fail
    refine wp_region_noPanic ?_
    refine wp_region_held_drew (S := fun w' => Ext (fun q => q = g) w1 w') (by kernel_rfl) ((Ext.refl _ _).drew 1) (fun hHeld => ?_)
    generalize w1.drew = wD at hHeld hBD hHD hOD hRD ⊢
    refine wpAnyH_take (i := 0) (oi := { dst := some 18, op := Go.Op.move (Go.Operand.tmp 5), type := 57, pos := "l09_node.go:190", after := #[], guard := none }) (v := ?vw0) rfl (by kernel_rfl) (by kernel_rfl) (by kernel_rfl) (fun _ _ _ h => h) (Or.inl ⟨by rfl, ?hw0⟩) hHeld ?rw0
    case hw0 =>
      intro wS hSw
      (try dsimp only at hSw)
      go_simp
      try with_reducible rfl
    case rw0 =>
    simp only [Act.put, List.setIfInBounds_toArray, List.set_cons_zero, List.set_cons_succ]
    refine wpAnyH_take (i := 1) (oi := { dst := some 19, op := Go.Op.nilCheck (Go.Operand.tmp 18), type := 0, pos := "l09_node.go:190", after := #[{ on := 0, ground := Go.Ground.data }], guard := none }) (v := ?vw1) rfl (by kernel_rfl) (by kernel_rfl) (by kernel_rfl) (fun _ _ _ h => h) (Or.inl ⟨by rfl, ?hw1⟩) hHeld ?rw1
    case hw1 =>
      intro wS hSw
      (try dsimp only at hSw)
      go_simp
      try with_reducible rfl
    case rw1 =>
    simp only [Act.put, List.setIfInBounds_toArray, List.set_cons_zero, List.set_cons_succ]
    refine wpAnyH_take (i := 2) (oi := { dst := some 20, op := Go.Op.fieldAddr 64 (Go.Operand.tmp 19) 0, type := 0, pos := "l09_node.go:190", after := #[{ on := 1, ground := Go.Ground.data }], guard := none }) (v := ?vw2) rfl (by kernel_rfl) (by kernel_rfl) (by kernel_rfl) (fun _ _ _ h => h) (Or.inl ⟨by rfl, ?hw2⟩) hHeld ?rw2
    case hw2 =>
      intro wS hSw
      (try dsimp only at hSw)
      go_simp
      try with_reducible rfl
    case rw2 =>
    simp only [Act.put, List.setIfInBounds_toArray, List.set_cons_zero, List.set_cons_succ]
    refine wpAnyH_take (i := 3) (oi := { dst := some 21, op := Go.Op.load 37 (Go.Operand.tmp 3), type := 37, pos := "l09_node.go:190", after := #[], guard := none }) (v := ?vw3) rfl (by kernel_rfl) (by kernel_rfl) (by kernel_rfl) (fun _ _ _ h => h) (Or.inl ⟨by rfl, ?hw3⟩) hHeld ?rw3
    case hw3 =>
      intro wS hSw
      have v0 : wS.cell? ⟨w.heap.size + 1, 0, none⟩ = some (.int .i64 y.kind) := (cell_of_heap (hSw.block (w.heap.size + 1) hyl (by omega)) 0).trans q0
      have v1 : wS.cell? ⟨w.heap.size + 1, 1, none⟩ = some (.int .i64 y.id) := (cell_of_heap (hSw.block (w.heap.size + 1) hyl (by omega)) 1).trans q1
      have v2 : wS.cell? ⟨w.heap.size + 1, 2, none⟩ = some (.slice a2 y.vec.length d2) := (cell_of_heap (hSw.block (w.heap.size + 1) hyl (by omega)) 2).trans q2
      have v3 : wS.cell? ⟨w.heap.size + 1, 3, none⟩ = some (.int .i64 y.session) := (cell_of_heap (hSw.block (w.heap.size + 1) hyl (by omega)) 3).trans q3
      have v4 : wS.cell? ⟨w.heap.size + 1, 4, none⟩ = some (.int .i64 y.seq) := (cell_of_heap (hSw.block (w.heap.size + 1) hyl (by omega)) 4).trans q4
      clear hSw
      (try dsimp only at hSw)
      go_simp
      try with_reducible rfl
    case rw3 =>
    simp only [Act.put, List.setIfInBounds_toArray, List.set_cons_zero, List.set_cons_succ]
    refine wpAnyH_ready (rs := [4]) (by kernel_rfl) (by simp) ?_
    refine AllReadyH.cons (o := { dst := some 22, op := Go.Op.call { callee := Go.Callee.value (Go.Operand.func 26), args := #[Go.Operand.tmp 20, Go.Operand.tmp 21], argTypes := #[62, 37] }, type := 53, pos := "l09_node.go:190", after := #[{ on := 2, ground := Go.Ground.data }, { on := 3, ground := Go.Ground.data }], guard := none }) rfl (fun K hK => ?_) AllReadyH.nil
    go_simp
    go_at_call 26
    refine (takeC g gw x _ y _ (hE.later hBD) hHD hOD.reads (hV.later hBD)).mono ?_
    rintro e w3 ⟨at', rfl, hq, hE3⟩
    have hz3 := hE3.size
    try go_wp2_with fail
    refine hK.out _ _ (hHeld.trans hE3) (fun hHeld => ?_)
    clear hK K
    try simp only [Act.put, List.setIfInBounds_toArray, List.set_cons_zero, List.set_cons_succ]
    refine wpAnyH_take (i := 5) (oi := { dst := some 17, op := Go.Op.move (Go.Operand.tmp 22), type := 53, pos := "l09_node.go:190", after := #[{ on := 4, ground := Go.Ground.data }], guard := none }) (v := ?vw5) rfl (by kernel_rfl) (by kernel_rfl) (by kernel_rfl) (fun _ _ _ h => h) (Or.inl ⟨by rfl, ?hw5⟩) hHeld ?rw5
    case hw5 =>
      intro wS hSw
      (try dsimp only at hSw)
      go_simp
      try with_reducible rfl
    case rw5 =>
    simp only [Act.put, List.setIfInBounds_toArray, List.set_cons_zero, List.set_cons_succ]
    refine wpAnyH_take (i := 6) (oi := { dst := some 23, op := Go.Op.extract (Go.Operand.tmp 17) 0, type := 2, pos := "l09_node.go:190", after := #[{ on := 5, ground := Go.Ground.data }], guard := none }) (v := ?vw6) rfl (by kernel_rfl) (by kernel_rfl) (by kernel_rfl) (fun _ _ _ h => h) (Or.inl ⟨by rfl, ?hw6⟩) hHeld ?rw6
    case hw6 =>
      intro wS hSw
      (try dsimp only at hSw)
      go_simp
      try with_reducible rfl
    case rw6 =>
    simp only [Act.put, List.setIfInBounds_toArray, List.set_cons_zero, List.set_cons_succ]
    refine wpAnyH_take (i := 7) (oi := { dst := some 24, op := Go.Op.extract (Go.Operand.tmp 17) 1, type := 2, pos := "l09_node.go:190", after := #[{ on := 5, ground := Go.Ground.data }, { on := 8, ground := Go.Ground.gcOnly Go.Departure.lateStores }], guard := none }) (v := ?vw7) rfl (by kernel_rfl) (by kernel_rfl) (by kernel_rfl) (fun _ _ _ h => h) (Or.inl ⟨by rfl, ?hw7⟩) hHeld ?rw7
    case hw7 =>
      intro wS hSw
      (try dsimp only at hSw)
      go_simp
      try with_reducible rfl
    case rw7 =>
    simp only [Act.put, List.setIfInBounds_toArray, List.set_cons_zero, List.set_cons_succ]
    refine wpAnyH_take (i := 8) (oi := { dst := some 7, op := Go.Op.assign (Go.Operand.tmp 23), type := 2, pos := "l09_node.go:190", after := #[{ on := 6, ground := Go.Ground.data }, { on := 4, ground := Go.Ground.chain }, { on := 0, ground := Go.Ground.phase }, { on := 1, ground := Go.Ground.phase }, { on := 2, ground := Go.Ground.phase }, { on := 3, ground := Go.Ground.phase }, { on := 4, ground := Go.Ground.phase }, { on := 5, ground := Go.Ground.phase }, { on := 6, ground := Go.Ground.phase }, { on := 7, ground := Go.Ground.textOnly Go.Departure.lateStores }], guard := none }) (v := ?vw8) rfl (by kernel_rfl) (by kernel_rfl) (by kernel_rfl) (fun _ _ _ h => h) (Or.inl ⟨by rfl, ?hw8⟩) hHeld ?rw8
    case hw8 =>
      intro wS hSw
      (try dsimp only at hSw)
      go_simp
      try with_reducible rfl
    case rw8 =>
    simp only [Act.put, List.setIfInBounds_toArray, List.set_cons_zero, List.set_cons_succ]
    refine wpAnyH_take (i := 9) (oi := { dst := some 6, op := Go.Op.assign (Go.Operand.tmp 24), type := 2, pos := "l09_node.go:190", after := #[{ on := 7, ground := Go.Ground.data }, { on := 8, ground := Go.Ground.chain }, { on := 0, ground := Go.Ground.phase }, { on := 1, ground := Go.Ground.phase }, { on := 2, ground := Go.Ground.phase }, { on := 3, ground := Go.Ground.phase }, { on := 4, ground := Go.Ground.phase }, { on := 5, ground := Go.Ground.phase }, { on := 6, ground := Go.Ground.phase }, { on := 7, ground := Go.Ground.phase }, { on := 8, ground := Go.Ground.phase }], guard := none }) (v := ?vw9) rfl (by kernel_rfl) (by kernel_rfl) (by kernel_rfl) (fun _ _ _ h => h) (Or.inl ⟨by rfl, ?hw9⟩) hHeld ?rw9
    case hw9 =>
      intro wS hSw
      (try dsimp only at hSw)
      go_simp
      try with_reducible rfl
    case rw9 =>
    simp only [Act.put, List.setIfInBounds_toArray, List.set_cons_zero, List.set_cons_succ]
    refine wpAnyH_done (by kernel_rfl) ?_ _
    refine NoPanic.normal ?_
    clear hHeld
    have hgl : g < wD.heap.size := hHD.lt
    have hR3 := Box.ext hRD hE3 (by omega)
    have hB3 := hBD.trans (hE3.below hBD.size (fun q hq e => by omega))
    have HR3 := hide hR3
    have HB3 := hide hB3
    clear hR3 hB3 hBD hHD hOD hRD hE3 hE hV q0 q1 q2 q3 q4 hyl
    have HAB := hide (appR_bd (y := y) (unhide HOK).writesF)
    have HTB := hide (takeCode_bd (y := y) (unhide HOK).writesF)
    by_cases hc : takeCode (appR x.writes y) = 0
    · obtain ⟨rfl, a, n, c, hH3, O3⟩ := hq hc
      have HY := hide (takeR_ok (unhide HA) hc)
      rw [hc]
      have HO3 := hide O3
      have HT := hide (toldC g a n c x w3 hH3)
      clear hq hc hH3 O3
      go_wp2_with fail
      refine (unhide HT).mono ?_
      rintro e w9 ⟨rfl, hb9⟩
      have bR9 := (unhide HR3).keep hb9
      have z0 := Box.at bR9 0 _ rfl
      have z1 := Box.at bR9 1 _ rfl
      have z2 := Box.at bR9 2 _ rfl
      have z3 := Box.at bR9 3 _ rfl
      have z4 := Box.at bR9 4 _ rfl
      have z5 := Box.at bR9 5 _ rfl
      have z6 := Box.at bR9 6 _ rfl
      have z7 := Box.at bR9 7 _ rfl
      have z8 := Box.at bR9 8 _ rfl
      simp only [List.getElem_toArray, List.getElem_cons_zero, List.getElem_cons_succ] at z0 z1 z2 z3 z4 z5 z6 z7 z8
      have ff := Box.soft bR9
      have l0 := Box.lt bR9
      have HO9 := hide ((unhide HO3).later hb9)
      have HB9 := hide ((unhide HB3).trans (hb9.mono (unhide HB3).size))
      have hz9 := hb9.size
      clear hb9 HT bR9 HO3 HR3 HB3
      go_wp2_with fail
      refine bodyPost_ret (v := .agg #[.int .i64 0, .int .i64 (appR x.writes y).place, .int .i64 x.id, .bool x.up, .int .i64 x.epoch, .int .i64 x.lease, .slice a n c, .int .i64 x.sure, .int .i64 x.clean]) (by simp [results, Tryd.results9, go_sem, z0, z1, z2, z3, z4, z5, z6, z7, z8]) rfl ?_
      rw [unhide HY]
      have hB9 := below_setAll (unhide HB9) (w.heap.size + 2) 0 [.int .i64 0, .int .i64 (appR x.writes y).place, .int .i64 x.id, .bool x.up, .int .i64 x.epoch, .int .i64 x.lease, .slice a n c, .int .i64 x.sure, .int .i64 x.clean] (by omega)
      refine ⟨[.int .i64 0, .int .i64 (appR x.writes y).place, .int .i64 x.id, .bool x.up, .int .i64 x.epoch, .int .i64 x.lease, .slice a n c, .int .i64 x.sure, .int .i64 x.clean], rfl, ?_, hB9⟩
      have o1 := own_store' (s := w.heap.size + 2) (vs := [.int .i64 0, .int .i64 (appR x.writes y).place, .int .i64 x.id, .bool x.up, .int .i64 x.epoch, .int .i64 x.lease, .slice a n c, .int .i64 x.sure, .int .i64 x.clean]) (unhide HO9) (by omega)
      obtain ⟨i1, i2, i3, i4, -, -, i7, i8, -⟩ := unhide HOK
      have hpl := (unhide HAB).2
      exact own_nodeR (x := withWrites x (appR x.writes y).writes) (c := 0) (n := (appR x.writes y).place) (by omega) (by omega) (o1.mono (by omega) (Nat.le_trans hz9 (Nat.le_of_eq (size_setAll w9 (w.heap.size + 2) 0 [.int .i64 0, .int .i64 (appR x.writes y).place, .int .i64 x.id, .bool x.up, .int .i64 x.epoch, .int .i64 x.lease, .slice a n c, .int .i64 x.sure, .int .i64 x.clean]).symm))) (by simp only [withWrites]; omega) (by simp only [withWrites]; omega) (by simp only [withWrites]; omega) (by simp only [withWrites]; omega) (by simp only [withWrites]; omega)
    · have HY := hide (takeR_code (unhide HA) hc)
      have hd : (takeCode (appR x.writes y) != 0) = true := by simpa using hc
      clear hq hc
      generalize takeCode (appR x.writes y) = tc at *
      have bR9 := (unhide HR3)
      have z0 := Box.at bR9 0 _ rfl
      have z1 := Box.at bR9 1 _ rfl
      have z2 := Box.at bR9 2 _ rfl
      have z3 := Box.at bR9 3 _ rfl
      have z4 := Box.at bR9 4 _ rfl
      have z5 := Box.at bR9 5 _ rfl
      have z6 := Box.at bR9 6 _ rfl
      have z7 := Box.at bR9 7 _ rfl
      have z8 := Box.at bR9 8 _ rfl
      simp only [List.getElem_toArray, List.getElem_cons_zero, List.getElem_cons_succ] at z0 z1 z2 z3 z4 z5 z6 z7 z8
      have ff := Box.soft bR9
      have l0 := Box.lt bR9
      clear bR9
      go_wp2_with fail
      refine bodyPost_ret (v := .agg #[.int .i64 tc, .int .i64 0, .int .i64 0, .bool false, .int .i64 0, .int .i64 0, .slice none 0 0, .int .i64 0, .int .i64 0]) (by simp [results, Tryd.results9, go_sem, z0, z1, z2, z3, z4, z5, z6, z7, z8]) rfl ?_
      rw [unhide HY]
      have hB9 := below_setAll (unhide HB3) (w.heap.size + 2) 0 [.int .i64 tc, .int .i64 0, .int .i64 0, .bool false, .int .i64 0, .int .i64 0, .slice none 0 0, .int .i64 0, .int .i64 0] (by omega)
      exact ⟨[.int .i64 tc, .int .i64 0, .int .i64 0, .bool false, .int .i64 0, .int .i64 0, .slice none 0 0, .int .i64 0, .int .i64 0], rfl, own_badNode (by have := unhide HTB; omega), hB9⟩
  · have HL := hide (upNode_bad _ x _ (hN.later nb) hf)
    have hd : (askedN x != 0) = true := by simpa using hf
    have HY := hide (takeR_bad (y := y) hf)
    have HW := hide (askedN_bd x)
    have HB0 := hide nb
    have HR0 := hide bR
    clear hN nb bR bX bY R4 R2 hf hV hE
    generalize askedN x = ac at *
    go_enter Tryd.func9, Tryd.ntmps9
    go_wp2_with fail
    generalize ((w.alloc (.cells #[.int .i64 x.id, .bool x.up, .int .i64 x.epoch, .int .i64 x.lease, .slice a4 x.writes.length d4, .int .i64 x.sure, .int .i64 x.clean] 32)).alloc (.cells #[.int .i64 y.kind, .int .i64 y.id, .slice a2 y.vec.length d2, .int .i64 y.session, .int .i64 y.seq] 37)).alloc (.cells #[.int .i64 0, .int .i64 0, .int .i64 0, .bool false, .int .i64 0, .int .i64 0, .slice none 0 0, .int .i64 0, .int .i64 0] 34) = W0 at *
    refine (unhide HL).mono ?_
    rintro e w1 ⟨rfl, hb⟩
    have HB1 := hide ((unhide HB0).trans (hb.mono (unhide HB0).size))
    have HR1 := hide ((unhide HR0).keep hb)
    clear hb HL HB0 HR0
    have bR9 := (unhide HR1)
    have z0 := Box.at bR9 0 _ rfl
    have z1 := Box.at bR9 1 _ rfl
    have z2 := Box.at bR9 2 _ rfl
    have z3 := Box.at bR9 3 _ rfl
    have z4 := Box.at bR9 4 _ rfl
    have z5 := Box.at bR9 5 _ rfl
    have z6 := Box.at bR9 6 _ rfl
    have z7 := Box.at bR9 7 _ rfl
    have z8 := Box.at bR9 8 _ rfl
    simp only [List.getElem_toArray, List.getElem_cons_zero, List.getElem_cons_succ] at z0 z1 z2 z3 z4 z5 z6 z7 z8
    have ff := Box.soft bR9
    have l0 := Box.lt bR9
    clear bR9
    go_wp2_with fail
    refine bodyPost_ret (v := .agg #[.int .i64 ac, .int .i64 0, .int .i64 0, .bool false, .int .i64 0, .int .i64 0, .slice none 0 0, .int .i64 0, .int .i64 0]) (by simp [results, Tryd.results9, go_sem, z0, z1, z2, z3, z4, z5, z6, z7, z8]) rfl ?_
    rw [unhide HY]
    have hB9 := below_setAll (unhide HB1) (w.heap.size + 2) 0 [.int .i64 ac, .int .i64 0, .int .i64 0, .bool false, .int .i64 0, .int .i64 0, .slice none 0 0, .int .i64 0, .int .i64 0] (by omega)
    exact ⟨[.int .i64 ac, .int .i64 0, .int .i64 0, .bool false, .int .i64 0, .int .i64 0, .slice none 0 0, .int .i64 0, .int .i64 0], rfl, own_badNode (unhide HW), hB9⟩

end Go.Proofs.YtbogjepkdcknfaaDoor

namespace Go.Proofs.YtbogjepkdcknfaaDoor
open Go.RowKit

theorem writes_few9 {ws : List DWrite} (h : ∀ x ∈ ws, wF x = 0) : cntAll Lay.tWrite.cnt ws ≤ 10 * ws.length := by
  induction ws with
  | nil => simp [cntAll]
  | cons x xs ih =>
    have h1 := ih fun y hy => h y (List.mem_cons_of_mem _ hy)
    have h2 : x.vec.length ≤ 3 := by
      obtain ⟨-, -, -, hk⟩ := writeFault_zero (h x (by simp))
      rcases hk with ⟨-, hv⟩ | ⟨-, hv⟩
      · have := (vecFault_zero hv).1; omega
      · rw [hv]; simp
    have h3 : Lay.tWrite.cnt x = x.vec.length + 4 := by
      have e : cntAll Lay.int.cnt x.vec = x.vec.length := by
        generalize x.vec = l
        induction l with
        | nil => rfl
        | cons y ys ihy => simp only [cntAll, List.length_cons, ihy]; show 1 + ys.length = _; omega
      show 1 + (1 + (cntAll Lay.int.cnt x.vec + (1 + 1))) = _
      omega
    simp only [cntAll, List.length_cons]
    omega
theorem node_few (y : DNodeResult) (h : ∀ x ∈ y.node.writes, wF x = 0) (hl : y.node.writes.length ≤ 1000) : Lay.tNodeResult.vcnt y ≤ 100000000 := by
  rw [vcnt_NodeResult, vcnt_Node]
  show cntAll Lay.tWrite.cnt y.node.writes ≤ 100000000
  have := writes_few9 h
  omega
theorem bad_few (c : Int) : Lay.tNodeResult.vcnt (badNode c) ≤ 100000000 := node_few _ (fun x hx => by cases hx) (by simp [badNode, noNode])
theorem syncR_few (x : DNode) : Lay.tNodeResult.vcnt (syncR x) ≤ 100000000 := by
  unfold syncR
  split
  · rename_i h
    have hok := (askedN_zero h).1
    exact node_few _ hok.ws (by have := hok.len; simp only; omega)
  · exact bad_few _
theorem cleanR_few (x : DNode) (i : Int) : Lay.tNodeResult.vcnt (cleanR x i) ≤ 100000000 := by
  unfold cleanR
  split
  · rename_i h
    have hok := (askedN_zero h).1
    split
    · exact node_few _ hok.ws (by have := hok.len; simp only; omega)
    · exact bad_few _
  · exact bad_few _
theorem crashR_few (x : DNode) (i : Int) : Lay.tNodeResult.vcnt (crashR x i) ≤ 100000000 := by
  unfold crashR
  split
  · rename_i h
    have hok := (askedN_zero h).1
    split
    · exact node_few _ (fun y hy => hok.ws y (List.mem_of_mem_take hy)) (by have := hok.len; simp only [crashN, List.length_take]; omega)
    · exact bad_few _
  · exact bad_few _
end Go.Proofs.YtbogjepkdcknfaaDoor

namespace Go.Proofs.YtbogjepkdcknfaaDoor
open Go.RowKit

theorem appR_ok {ws : List DWrite} {y : DWrite} (h : writesF ws = 0) : ∀ z ∈ (appR ws y).writes, wF z = 0 := by
  have hall := (writesF_zero h).2
  by_cases hf : wF y = 0
  · by_cases hs : seenI ws y.session y.seq = 0
    · by_cases c : y.seq < lastI ws y.session
      · rw [appR_old h hf hs c]; intro z hz; cases hz
      · by_cases c2 : 200 ≤ ws.length
        · rw [appR_full h hf hs c c2]; intro z hz; cases hz
        · rw [appR_new h hf hs c c2]
          intro z hz
          rcases List.mem_append.1 hz with hz | hz
          · exact hall z hz
          · rw [List.mem_singleton.1 hz]; exact hf
    · rw [appR_seen h hf hs]; exact hall
  · rw [appR_bad h hf]; intro z hz; cases hz
theorem takeR_few (x : DNode) (y : DWrite) : Lay.tNodeResult.vcnt (takeR x y) ≤ 100000000 := by
  unfold takeR
  split
  · rename_i h
    have hok := (askedN_zero h).1
    split
    · split
      · exact bad_few _
      · rename_i h2
        exact node_few _ (appR_ok hok.writesF) (by simp only [withWrites]; omega)
    · exact bad_few _
  · exact bad_few _
theorem lawTakeWrite (cs : List Value) (x : DNode) (us : List Value) (y : DWrite) (w : World) (ht : Errs w) (h : Lay.tNode.Reads w cs x) (h2 : Lay.tWrite.Reads w us y) :
    Calls Tryd.prog 3 #[.agg cs.toArray, .agg us.toArray] w fun e w' => e = .returned (.bool true) ∧ Below w.heap.size w w' := by
  by_cases hn : Lay.tNode.sz x + Lay.tWrite.sz y ≤ 1048576
  · exact lawx_TakeWrite cs x us y (takeR x y) w h h2 hn ht (fun W a b _ ha hb => specTakeWrite a x b y W ha hb) (fun W a b hE ha hb => implTakeWrite a x b y W hE ha hb) (takeR_few x y)
  · exact lawover_TakeWrite cs x us y w h h2 (by omega)

end Go.Proofs.YtbogjepkdcknfaaDoor

namespace Go.Proofs.YtbogjepkdcknfaaDoor
open Go.RowKit

set_option maxRecDepth 10000 in
theorem opens_Write : Opens Lay.tWrite 27 := by
  intro H enc W base spare held fuel cs x h
  obtain ⟨xs, n, _, _, hlen, hl, hfi⟩ := DataW.trod_struct Tryd.underlying27 h
  rw [show Tryd.prog.cellsOf 27 = 5 by kernel_rfl] at hlen
  match cs, hlen with
  | [c0, c1, c2, c3, c4], _ =>
  match xs, hl with
  | [y0, y1, y2, y3, y4], _ =>
  have z0 : Tryd.prog.cellsOf 2 = 1 := by kernel_rfl
  have z1 : Tryd.prog.cellsOf 25 = 1 := by kernel_rfl
  have f0 : DataW.trod enc Tryd.prog W base spare held n 2 (([c0, c1, c2, c3, c4].drop 0).take (Tryd.prog.cellsOf 2)) = some y0 := hfi 0 _ rfl
  rw [z0] at f0
  obtain ⟨d0, r0⟩ := (opens_int Tryd.underlying2) enc W base spare held n _ _ f0
  have f1 : DataW.trod enc Tryd.prog W base spare held n 2 (([c0, c1, c2, c3, c4].drop 1).take (Tryd.prog.cellsOf 2)) = some y1 := hfi 1 _ rfl
  rw [z0] at f1
  obtain ⟨d1, r1⟩ := (opens_int Tryd.underlying2) enc W base spare held n _ _ f1
  have f2 : DataW.trod enc Tryd.prog W base spare held n 25 (([c0, c1, c2, c3, c4].drop 2).take (Tryd.prog.cellsOf 25)) = some y2 := hfi 2 _ rfl
  rw [z1] at f2
  obtain ⟨d2, r2⟩ := (opens_sl Tryd.underlying25 (by kernel_rfl) (by decide) (opens_int Tryd.underlying2)) enc W base spare held n _ _ f2
  have f3 : DataW.trod enc Tryd.prog W base spare held n 2 (([c0, c1, c2, c3, c4].drop 3).take (Tryd.prog.cellsOf 2)) = some y3 := hfi 3 _ rfl
  rw [z0] at f3
  obtain ⟨d3, r3⟩ := (opens_int Tryd.underlying2) enc W base spare held n _ _ f3
  have f4 : DataW.trod enc Tryd.prog W base spare held n 2 (([c0, c1, c2, c3, c4].drop 4).take (Tryd.prog.cellsOf 2)) = some y4 := hfi 4 _ rfl
  rw [z0] at f4
  obtain ⟨d4, r4⟩ := (opens_int Tryd.underlying2) enc W base spare held n _ _ f4
  exact ⟨⟨d0, d1, d2, d3, d4⟩, (reads_pair r0 (reads_pair r1 (reads_pair r2 (reads_pair r3 r4))))⟩

end Go.Proofs.YtbogjepkdcknfaaDoor

namespace Go.Proofs.YtbogjepkdcknfaaDoor
open Go.RowKit

set_option maxRecDepth 10000 in
theorem opens_Node : Opens Lay.tNode 24 := by
  intro H enc W base spare held fuel cs x h
  obtain ⟨xs, n, _, _, hlen, hl, hfi⟩ := DataW.trod_struct Tryd.underlying24 h
  rw [show Tryd.prog.cellsOf 24 = 7 by kernel_rfl] at hlen
  match cs, hlen with
  | [c0, c1, c2, c3, c4, c5, c6], _ =>
  match xs, hl with
  | [y0, y1, y2, y3, y4, y5, y6], _ =>
  have z0 : Tryd.prog.cellsOf 2 = 1 := by kernel_rfl
  have z1 : Tryd.prog.cellsOf 4 = 1 := by kernel_rfl
  have z2 : Tryd.prog.cellsOf 22 = 1 := by kernel_rfl
  have f0 : DataW.trod enc Tryd.prog W base spare held n 2 (([c0, c1, c2, c3, c4, c5, c6].drop 0).take (Tryd.prog.cellsOf 2)) = some y0 := hfi 0 _ rfl
  rw [z0] at f0
  obtain ⟨d0, r0⟩ := (opens_int Tryd.underlying2) enc W base spare held n _ _ f0
  have f1 : DataW.trod enc Tryd.prog W base spare held n 4 (([c0, c1, c2, c3, c4, c5, c6].drop 1).take (Tryd.prog.cellsOf 4)) = some y1 := hfi 1 _ rfl
  rw [z1] at f1
  obtain ⟨d1, r1⟩ := (opens_bool Tryd.underlying4) enc W base spare held n _ _ f1
  have f2 : DataW.trod enc Tryd.prog W base spare held n 2 (([c0, c1, c2, c3, c4, c5, c6].drop 2).take (Tryd.prog.cellsOf 2)) = some y2 := hfi 2 _ rfl
  rw [z0] at f2
  obtain ⟨d2, r2⟩ := (opens_int Tryd.underlying2) enc W base spare held n _ _ f2
  have f3 : DataW.trod enc Tryd.prog W base spare held n 2 (([c0, c1, c2, c3, c4, c5, c6].drop 3).take (Tryd.prog.cellsOf 2)) = some y3 := hfi 3 _ rfl
  rw [z0] at f3
  obtain ⟨d3, r3⟩ := (opens_int Tryd.underlying2) enc W base spare held n _ _ f3
  have f4 : DataW.trod enc Tryd.prog W base spare held n 22 (([c0, c1, c2, c3, c4, c5, c6].drop 4).take (Tryd.prog.cellsOf 22)) = some y4 := hfi 4 _ rfl
  rw [z2] at f4
  obtain ⟨d4, r4⟩ := (opens_sl Tryd.underlying22 (by kernel_rfl) (by decide) opens_Write) enc W base spare held n _ _ f4
  have f5 : DataW.trod enc Tryd.prog W base spare held n 2 (([c0, c1, c2, c3, c4, c5, c6].drop 5).take (Tryd.prog.cellsOf 2)) = some y5 := hfi 5 _ rfl
  rw [z0] at f5
  obtain ⟨d5, r5⟩ := (opens_int Tryd.underlying2) enc W base spare held n _ _ f5
  have f6 : DataW.trod enc Tryd.prog W base spare held n 2 (([c0, c1, c2, c3, c4, c5, c6].drop 6).take (Tryd.prog.cellsOf 2)) = some y6 := hfi 6 _ rfl
  rw [z0] at f6
  obtain ⟨d6, r6⟩ := (opens_int Tryd.underlying2) enc W base spare held n _ _ f6
  exact ⟨⟨d0, d1, d2, d3, d4, d5, d6⟩, (reads_pair r0 (reads_pair r1 (reads_pair r2 (reads_pair r3 (reads_pair r4 (reads_pair r5 r6))))))⟩

end Go.Proofs.YtbogjepkdcknfaaDoor
