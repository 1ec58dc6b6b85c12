/-
  Texts of this proof in one: SpecCutC, ChainFew, LawCutChain, LayOpen, OpenChain.
  Their conditions stand in their theorems.
-/
import Derived.Test.YtceoaphcjnfphaaCc04
import Derived.Test.YtceoaphcjnfphaaCc05
import Derived.Deep.RegionHeld3
import Derived.Test.YtceoaphcjnfphaaCc03
import Derived.Test.YtceoaphcjnfphaaCc02
import Derived.Test.YtceoaphcjnfphaaChecked
import Derived.Test.YtceoaphcjnfphaaCc01
import Derived.ProofKit
import Derived.OpenShut
import Derived.Deep.Slices

namespace Go.Proofs.Ytceoaphcjnfphaa
open Go.RowKit

def cutL (ids : List Int) (id : Int) : List Int := ids.filter fun z => z != id
theorem cutL_len (ids : List Int) (id : Int) : (cutL ids id).length ≤ ids.length := List.length_filter_le _ _
theorem cutL_same (ids : List Int) (id : Int) (k : Nat) (hk : k < ids.length) (h : (ids[k] != id) = false) : cutL (ids.take (k + 1)) id = cutL (ids.take k) id := by
  rw [List.take_succ_eq_append_getElem hk, cutL, List.filter_append]
  simp [cutL, h]
theorem cutL_more (ids : List Int) (id : Int) (k : Nat) (hk : k < ids.length) (h : (ids[k] != id) = true) : cutL (ids.take (k + 1)) id = cutL (ids.take k) id ++ [ids[k]] := by
  rw [List.take_succ_eq_append_getElem hk, cutL, List.filter_append]
  simp [cutL, h]

set_option maxRecDepth 10000 in
set_option maxHeartbeats 2000000 in
theorem l10CutC (b : Nat) (a : Option Addr) (d : Nat) (x : DChain) (id : Int) (w : World) (hX : ChainAt w b (.slice a x.ids.length d) x) (R : (Lay.sl Lay.int).Reads w [.slice a x.ids.length d] x.ids) (hn : x.ids.length ≤ 1000) (he : -1000000000 ≤ x.epoch ∧ x.epoch ≤ 1000000000) :
    Calls Try.prog 42 #[.pointer (some ⟨b, 0, none⟩), .int .i64 id] w fun e w' => ∃ v, e = .returned (.agg #[.int .i64 (x.epoch + 1), v]) ∧ w'.ownsRow w.heap.size 2 1 v (cutL x.ids id).length ((cutL x.ids id).map (Value.int .i64)) ∧ Below w.heap.size w w' := by
  have nb0 : Below w.heap.size w (w.alloc (.cells #[.int .i64 0, .slice none 0 0] 27)) := (Below.refl _ _).alloc (Nat.le_refl _) _
  have nb : Below w.heap.size w ((w.alloc (.cells #[.int .i64 0, .slice none 0 0] 27)).alloc (.cells #[.int .i64 (x.epoch + 1), .slice none 0 0] 27)) := nb0.alloc (by simp) _
  have bR : Box 0 #[.int .i64 0, .slice none 0 0] 27 ((w.alloc (.cells #[.int .i64 0, .slice none 0 0] 27)).alloc (.cells #[.int .i64 (x.epoch + 1), .slice none 0 0] 27)) w.heap.size := (newBox (Nat.zero_le _)).grow _
  have bC : Box 0 #[.int .i64 (x.epoch + 1), .slice none 0 0] 27 ((w.alloc (.cells #[.int .i64 0, .slice none 0 0] 27)).alloc (.cells #[.int .i64 (x.epoch + 1), .slice none 0 0] 27)) (w.heap.size + 1) := newBoxAt (Nat.zero_le _) (by simp)
  have x0 := Box.at (hX.keep nb0) 0 _ rfl
  simp only [List.getElem_toArray, List.getElem_cons_zero] at x0
  have xl := Box.lt hX
  have xl0 := Box.lt (hX.keep nb0)
  have HB := hide nb
  have HR := hide bR
  have HC := hide bC
  have HX := hide hX
  have H := hide R
  have HZ : Hid (w.heap.size + 2 ≤ ((w.alloc (.cells #[.int .i64 0, .slice none 0 0] 27)).alloc (.cells #[.int .i64 (x.epoch + 1), .slice none 0 0] 27)).heap.size) := by show w.heap.size + 2 ≤ ((w.alloc (.cells #[.int .i64 0, .slice none 0 0] 27)).alloc (.cells #[.int .i64 (x.epoch + 1), .slice none 0 0] 27)).heap.size; simp
  clear nb nb0 bR bC hX R
  go_enter Try.func42, Try.ntmps42
  go_wp2_with fail
  clear x0 xl0
  generalize (w.alloc (.cells #[.int .i64 0, .slice none 0 0] 27)).alloc (.cells #[.int .i64 (x.epoch + 1), .slice none 0 0] 27) = W at *
  go_loopw [6] (fun i wr => ∃ (k : Nat) (v : Value), k ≤ x.ids.length ∧ i = .int .i64 (k : Int) ∧ Box 0 #[.int .i64 (x.epoch + 1), v] 27 wr (w.heap.size + 1) ∧ Box 0 #[.int .i64 0, .slice none 0 0] 27 wr w.heap.size ∧ wr.ownsRow (w.heap.size + 2) 2 1 v (cutL (x.ids.take k) id).length ((cutL (x.ids.take k) id).map (Value.int .i64)) ∧ w.heap.size + 2 ≤ wr.heap.size ∧ Below w.heap.size w wr) (fun i _ => x.ids.length - (intOf i).toNat)
  case atStart => exact ⟨0, _, Nat.zero_le _, rfl, unhide HC, unhide HR, World.ownsRow_nil _ _ _ _, unhide HZ, unhide HB⟩
  case round =>
    obtain ⟨k, v, hk, rfl, hC, hR, hO, hz, hB⟩ := hrel
    clear HC HR HB HZ
    have x1 := Box.at ((unhide HX).keep hB) 1 _ rfl
    simp only [List.getElem_toArray, List.getElem_cons_zero, List.getElem_cons_succ] at x1
    have xlr := Box.lt ((unhide HX).keep hB)
    by_cases hlt : k < x.ids.length
    · have hdl : decide ((k : Int) < (x.ids.length : Int)) = true := by simp; omega
      obtain ⟨b2, off, rfl, hb2⟩ := Lay.sl_addr (unhide H) (by omega)
      have zc := int_cell ((unhide H).later hB) hlt
      have hb2r : b2 < wr.heap.size := by omega
      cases hq : (x.ids[k] != id)
      · have HST := hide (cutL_same x.ids id k hlt hq)
        have HCr := hide hC
        have HRr := hide hR
        have HBr := hide hB
        have HOr : Hid (wr.ownsRow (w.heap.size + 2) 2 1 v (cutL (x.ids.take (k + 1)) id).length ((cutL (x.ids.take (k + 1)) id).map (Value.int .i64))) := by
          show wr.ownsRow (w.heap.size + 2) 2 1 v (cutL (x.ids.take (k + 1)) id).length ((cutL (x.ids.take (k + 1)) id).map (Value.int .i64))
          rw [unhide HST]
          exact hO
        clear hC hR hB hO HST
        generalize x.ids[k] = z at *
        go_wp2_with fail
        go_roundw
        case rel => exact ⟨k + 1, _, by omega, by go_num, unhide HCr, unhide HRr, unhide HOr, hz, unhide HBr⟩
        case measure => simp [intOf]; omega
      · have HST := hide (cutL_more x.ids id k hlt hq)
        have HLN : Hid ((cutL (x.ids.take k) id).length ≤ 1000) := by
          have := cutL_len (x.ids.take k) id
          have h2 : (x.ids.take k).length ≤ x.ids.length := by rw [List.length_take]; omega
          exact Nat.le_trans this (by omega)
        have HBr := hide hB
        have HX1 := hide x1
        have HZC := hide zc
        have hCD := Box.drew hC
        have hRD := Box.drew hR
        have hOD : wr.drew.ownsRow (w.heap.size + 2) 2 1 v (cutL (x.ids.take k) id).length ((cutL (x.ids.take k) id).map (Value.int .i64)) := hO
        have hDB : Below (w.heap.size + 1) wr wr.drew := (Below.refl _ _).drew
        have hzD : w.heap.size + 2 ≤ wr.drew.heap.size := hz
        clear hC hR hB hO
        generalize x.ids[k] = z at *
        go_wp2_with fail
        clear x1 zc
        refine wp_region_noPanic ?_
        refine wp_region_held_drew (S := fun w' => Below (w.heap.size + 1) wr w') (by kernel_rfl) (Below.refl _ _).drew (fun hHeld => ?_)
        generalize wr.drew = wD at hHeld hCD hRD hOD hDB hzD ⊢
        refine wpAnyH_take (i := 0) (oi := { dst := some 31, op := Go.Op.fieldAddr 27 (Go.Operand.tmp 5) 1, type := 0, pos := "l10_chain.go:82", after := #[], guard := none }) (v := ?vu0_1) rfl (by kernel_rfl) (by kernel_rfl) (by kernel_rfl) (fun _ _ _ h => h) (Or.inl ⟨by rfl, ?hu0_1⟩) hHeld ?ru0_1
        case hu0_1 =>
          intro wS hSw
          (try dsimp only at hSw)
          go_simp
          try with_reducible rfl
        case ru0_1 =>
        simp only [Act.put, List.setIfInBounds_toArray, List.set_cons_zero, List.set_cons_succ]
        refine wpAnyH_take (i := 2) (oi := { dst := some 33, op := Go.Op.move (Go.Operand.tmp 0), type := 46, pos := "l10_chain.go:82", after := #[], guard := none }) (v := ?vu2_2) rfl (by kernel_rfl) (by kernel_rfl) (by kernel_rfl) (fun _ _ _ h => h) (Or.inl ⟨by rfl, ?hu2_2⟩) hHeld ?ru2_2
        case hu2_2 =>
          intro wS hSw
          (try dsimp only at hSw)
          go_simp
          try with_reducible rfl
        case ru2_2 =>
        simp only [Act.put, List.setIfInBounds_toArray, List.set_cons_zero, List.set_cons_succ]
        refine wpAnyH_take (i := 3) (oi := { dst := some 34, op := Go.Op.nilCheck (Go.Operand.tmp 33), type := 0, pos := "l10_chain.go:82", after := #[{ on := 2, ground := Go.Ground.data }], guard := none }) (v := ?vu3_3) rfl (by kernel_rfl) (by kernel_rfl) (by kernel_rfl) (fun _ _ _ h => h) (Or.inl ⟨by rfl, ?hu3_3⟩) hHeld ?ru3_3
        case hu3_3 =>
          intro wS hSw
          (try dsimp only at hSw)
          go_simp
          try with_reducible rfl
        case ru3_3 =>
        simp only [Act.put, List.setIfInBounds_toArray, List.set_cons_zero, List.set_cons_succ]
        refine wpAnyH_take (i := 4) (oi := { dst := some 35, op := Go.Op.fieldAddr 27 (Go.Operand.tmp 34) 1, type := 0, pos := "l10_chain.go:82", after := #[{ on := 3, ground := Go.Ground.data }], guard := none }) (v := ?vu4_4) rfl (by kernel_rfl) (by kernel_rfl) (by kernel_rfl) (fun _ _ _ h => h) (Or.inl ⟨by rfl, ?hu4_4⟩) hHeld ?ru4_4
        case hu4_4 =>
          intro wS hSw
          (try dsimp only at hSw)
          go_simp
          try with_reducible rfl
        case ru4_4 =>
        simp only [Act.put, List.setIfInBounds_toArray, List.set_cons_zero, List.set_cons_succ]
        refine wpAnyH_take (i := 5) (oi := { dst := some 36, op := Go.Op.load 22 (Go.Operand.tmp 35), type := 22, pos := "l10_chain.go:82", after := #[{ on := 4, ground := Go.Ground.data }], guard := none }) (v := ?vu5_5) rfl (by kernel_rfl) (by kernel_rfl) (by kernel_rfl) (fun _ _ _ h => h) (Or.inl ⟨by rfl, ?hu5_5⟩) hHeld ?ru5_5
        case hu5_5 =>
          intro wS hSw
          have e1 : wS.cell? ⟨b, 1, none⟩ = some (.slice (some ⟨b2, off, none⟩) x.ids.length d) := (hSw.cell (p := ⟨b, 1, none⟩) (by show b < w.heap.size + 1; omega)).trans (unhide HX1)
          clear hSw
          (try dsimp only at hSw)
          go_simp
          try with_reducible rfl
        case ru5_5 =>
        simp only [Act.put, List.setIfInBounds_toArray, List.set_cons_zero, List.set_cons_succ]
        refine wpAnyH_take (i := 6) (oi := { dst := some 37, op := Go.Op.move (Go.Operand.tmp 6), type := 3, pos := "l10_chain.go:82", after := #[], guard := none }) (v := ?vu6_6) rfl (by kernel_rfl) (by kernel_rfl) (by kernel_rfl) (fun _ _ _ h => h) (Or.inl ⟨by rfl, ?hu6_6⟩) hHeld ?ru6_6
        case hu6_6 =>
          intro wS hSw
          (try dsimp only at hSw)
          go_simp
          try with_reducible rfl
        case ru6_6 =>
        simp only [Act.put, List.setIfInBounds_toArray, List.set_cons_zero, List.set_cons_succ]
        refine wpAnyH_take (i := 7) (oi := { dst := some 38, op := Go.Op.indexAddr 22 (Go.Operand.tmp 36) (Go.Operand.tmp 37), type := 0, pos := "l10_chain.go:82", after := #[{ on := 5, ground := Go.Ground.data }, { on := 6, ground := Go.Ground.data }], guard := none }) (v := ?vu7_7) rfl (by kernel_rfl) (by kernel_rfl) (by kernel_rfl) (fun _ _ _ h => h) (Or.inl ⟨by rfl, ?hu7_7⟩) hHeld ?ru7_7
        case hu7_7 =>
          intro wS hSw
          clear hSw
          have q1 : (k : Int) < (x.ids.length : Int) := by omega
          have q2 : (0 : Int) ≤ (k : Int) := by omega
          (try dsimp only at hSw)
          go_simp
          try with_reducible rfl
        case ru7_7 =>
        simp only [Act.put, List.setIfInBounds_toArray, List.set_cons_zero, List.set_cons_succ]
        refine wpAnyH_take (i := 8) (oi := { dst := some 39, op := Go.Op.load 2 (Go.Operand.tmp 38), type := 2, pos := "l10_chain.go:82", after := #[{ on := 7, ground := Go.Ground.data }], guard := none }) (v := ?vu8_8) rfl (by kernel_rfl) (by kernel_rfl) (by kernel_rfl) (fun _ _ _ h => h) (Or.inl ⟨by rfl, ?hu8_8⟩) hHeld ?ru8_8
        case hu8_8 =>
          intro wS hSw
          have e1 : wS.cell? ⟨b2, off + k, none⟩ = some (.int .i64 z) := (hSw.cell (p := ⟨b2, off + k, none⟩) (by show b2 < w.heap.size + 1; omega)).trans (unhide HZC)
          clear hSw
          (try dsimp only at hSw)
          go_simp
          try with_reducible rfl
        case ru8_8 =>
        simp only [Act.put, List.setIfInBounds_toArray, List.set_cons_zero, List.set_cons_succ]
        refine wpAnyH_ready (rs := [1, 9]) (by kernel_rfl) (by simp) ?_
        refine AllReadyH.cons (o := { dst := some 32, op := Go.Op.load 22 (Go.Operand.tmp 31), type := 22, pos := "l10_chain.go:82", after := #[{ on := 0, ground := Go.Ground.data }], guard := none }) rfl (fun K hK => ?ou1_9) (AllReadyH.cons (o := { dst := some 40, op := Go.Op.buildSlice 22 1 #[(0, Go.Operand.tmp 39)], type := 22, pos := "l10_chain.go:82", after := #[{ on := 8, ground := Go.Ground.data }], guard := none }) rfl (fun K hK => ?ou9_9) (AllReadyH.nil))
        case ou1_9 =>
          have c1 := Box.at hCD 1 _ rfl
          simp only [List.getElem_toArray, List.getElem_cons_zero, List.getElem_cons_succ] at c1
          have cl := Box.lt hCD
          go_simp
          try go_wp2_with fail
          refine hK.out _ _ hHeld (fun hHeld => ?_)
          clear hK K
          try simp only [Act.put, List.setIfInBounds_toArray, List.set_cons_zero, List.set_cons_succ]
          refine wpAnyH_ready (rs := [9]) (by kernel_rfl) (by simp) ?_
          refine AllReadyH.cons (o := { dst := some 40, op := Go.Op.buildSlice 22 1 #[(0, Go.Operand.tmp 39)], type := 22, pos := "l10_chain.go:82", after := #[{ on := 8, ground := Go.Ground.data }], guard := none }) rfl (fun K hK => ?_) AllReadyH.nil
          have nb9 : Below wD.heap.size wD (wD.alloc (.cells #[.int .i64 z] 2)) := (Below.refl _ _).alloc (Nat.le_refl _) _
          have hC9 := hCD.keep nb9
          have hS9 := hHeld.trans (nb9.mono (by omega))
          go_simp
          try go_wp2_with fail
          refine hK.out _ _ hS9 (fun hHeld => ?_)
          clear hK K
          try simp only [Act.put, List.setIfInBounds_toArray, List.set_cons_zero, List.set_cons_succ]
          refine wpAnyH_ready (rs := [10]) (by kernel_rfl) (by simp) ?_
          refine AllReadyH.cons (o := { dst := some 41, op := Go.Op.call { callee := Go.Callee.builtin Go.Builtin.append, args := #[Go.Operand.tmp 32, Go.Operand.tmp 40], argTypes := #[22, 22] }, type := 22, pos := "l10_chain.go:82", after := #[{ on := 1, ground := Go.Ground.data }, { on := 9, ground := Go.Ground.data }], guard := none }) rfl (fun K hK => ?_) AllReadyH.nil
          refine step_append_int hOD z rfl _ _ rfl rfl rfl (by have := unhide HLN; omega) (by omega) ?_
          intro g cap w5 hO5 hg5 hb5 hgl hz5
          have hS5 := hDB.trans (hb5.mono (by omega))
          have hC5 := box_lowC hCD hb5 (by omega)
          have hR5 := box_lowC hRD hb5 (by omega)
          have y1 := Box.at hC5 1 _ rfl
          simp only [List.getElem_toArray, List.getElem_cons_zero, List.getElem_cons_succ] at y1
          have yf := Box.soft hC5
          have yl := Box.lt hC5
          refine hK.out _ _ hS5 (fun hHeld => ?_)
          clear hK K
          try simp only [Act.put, List.setIfInBounds_toArray, List.set_cons_zero, List.set_cons_succ]
          refine wpAnyH_take (i := 11) (oi := { dst := some 42, op := Go.Op.fieldAddr 27 (Go.Operand.tmp 5) 1, type := 0, pos := "l10_chain.go:82", after := #[{ on := 0, ground := Go.Ground.phase }, { on := 1, ground := Go.Ground.phase }, { on := 2, ground := Go.Ground.phase }, { on := 3, ground := Go.Ground.phase }, { on := 4, ground := Go.Ground.phase }, { on := 5, ground := Go.Ground.phase }, { on := 6, ground := Go.Ground.phase }, { on := 7, ground := Go.Ground.phase }, { on := 8, ground := Go.Ground.phase }, { on := 9, ground := Go.Ground.phase }, { on := 10, ground := Go.Ground.phase }], guard := none }) (v := ?vu11_10) rfl (by kernel_rfl) (by kernel_rfl) (by kernel_rfl) (fun _ _ _ h => h) (Or.inl ⟨by rfl, ?hu11_10⟩) hHeld ?ru11_10
          case hu11_10 =>
            intro wS hSw
            (try dsimp only at hSw)
            go_simp
            try with_reducible rfl
          case ru11_10 =>
          simp only [Act.put, List.setIfInBounds_toArray, List.set_cons_zero, List.set_cons_succ]
          refine wpAnyH_ready (rs := [12]) (by kernel_rfl) (by simp) ?_
          refine AllReadyH.cons (o := { dst := none, op := Go.Op.store 22 (Go.Operand.tmp 42) (Go.Operand.tmp 41), type := 0, pos := "l10_chain.go:82", after := #[{ on := 11, ground := Go.Ground.data }, { on := 10, ground := Go.Ground.data }, { on := 10, ground := Go.Ground.chain }, { on := 0, ground := Go.Ground.phase }, { on := 1, ground := Go.Ground.phase }, { on := 2, ground := Go.Ground.phase }, { on := 3, ground := Go.Ground.phase }, { on := 4, ground := Go.Ground.phase }, { on := 5, ground := Go.Ground.phase }, { on := 6, ground := Go.Ground.phase }, { on := 7, ground := Go.Ground.phase }, { on := 8, ground := Go.Ground.phase }, { on := 9, ground := Go.Ground.phase }, { on := 10, ground := Go.Ground.phase }], guard := none }) rfl (fun K hK => ?_) AllReadyH.nil
          go_simp
          try go_wp2_with fail
          refine hK.out _ _ (hS5.setCell (p := ⟨w.heap.size + 1, 1, none⟩) (by simp) (.slice (some ⟨g, 0, none⟩) ((cutL (x.ids.take k) id).length + 1) cap)) (fun hHeld => ?_)
          clear hK K
          try simp only [Act.put, List.setIfInBounds_toArray, List.set_cons_zero, List.set_cons_succ]
          refine wpAnyH_done (by kernel_rfl) ?_ _
          refine NoPanic.normal ?_
          have HC6 : Hid (Box 0 #[.int .i64 (x.epoch + 1), .slice (some ⟨g, 0, none⟩) ((cutL (x.ids.take k) id).length + 1) cap] 27 (w5.setCell ⟨w.heap.size + 1, 1, none⟩ (.slice (some ⟨g, 0, none⟩) ((cutL (x.ids.take k) id).length + 1) cap)) (w.heap.size + 1)) := Box.set hC5 1 (.slice (some ⟨g, 0, none⟩) ((cutL (x.ids.take k) id).length + 1) cap)
          have HR6 := hide (hR5.other ⟨w.heap.size + 1, 1, none⟩ (.slice (some ⟨g, 0, none⟩) ((cutL (x.ids.take k) id).length + 1) cap) (by simp))
          have HO6 : Hid (World.ownsRow (w5.setCell ⟨w.heap.size + 1, 1, none⟩ (.slice (some ⟨g, 0, none⟩) ((cutL (x.ids.take k) id).length + 1) cap)) (w.heap.size + 2) 2 1 (.slice (some ⟨g, 0, none⟩) ((cutL (x.ids.take k) id).length + 1) cap) (cutL (x.ids.take (k + 1)) id).length ((cutL (x.ids.take (k + 1)) id).map (Value.int .i64))) := by
            have := own_setC (a := ⟨w.heap.size + 1, 1, none⟩) hO5 (by simp) (.slice (some ⟨g, 0, none⟩) ((cutL (x.ids.take k) id).length + 1) cap)
            rw [unhide HST, List.length_append, List.map_append]
            exact this
          have HB6 := hide (((unhide HBr).trans ((hDB.trans (hb5.mono (by omega))).mono (by omega))).setCell (p := ⟨w.heap.size + 1, 1, none⟩) (by simp) (.slice (some ⟨g, 0, none⟩) ((cutL (x.ids.take k) id).length + 1) cap))
          clear hHeld hCD hRD hOD hDB hC9 nb9 hS9 hS5 hC5 hR5 hO5 hg5 hb5 c1 cl
          go_wp2_with fail
          go_roundw
          case rel => exact ⟨k + 1, _, by omega, by go_num, unhide HC6, unhide HR6, unhide HO6, by simp; omega, unhide HB6⟩
          case measure => simp [intOf]; omega
        case ou9_9 =>
          have nb9 : Below wD.heap.size wD (wD.alloc (.cells #[.int .i64 z] 2)) := (Below.refl _ _).alloc (Nat.le_refl _) _
          have hC9 := hCD.keep nb9
          have hS9 := hHeld.trans (nb9.mono (by omega))
          go_simp
          try go_wp2_with fail
          refine hK.out _ _ hS9 (fun hHeld => ?_)
          clear hK K
          try simp only [Act.put, List.setIfInBounds_toArray, List.set_cons_zero, List.set_cons_succ]
          refine wpAnyH_ready (rs := [1]) (by kernel_rfl) (by simp) ?_
          refine AllReadyH.cons (o := { dst := some 32, op := Go.Op.load 22 (Go.Operand.tmp 31), type := 22, pos := "l10_chain.go:82", after := #[{ on := 0, ground := Go.Ground.data }], guard := none }) rfl (fun K hK => ?_) AllReadyH.nil
          have c1 := Box.at hC9 1 _ rfl
          simp only [List.getElem_toArray, List.getElem_cons_zero, List.getElem_cons_succ] at c1
          have cl := Box.lt hC9
          go_simp
          try go_wp2_with fail
          refine hK.out _ _ hHeld (fun hHeld => ?_)
          clear hK K
          try simp only [Act.put, List.setIfInBounds_toArray, List.set_cons_zero, List.set_cons_succ]
          refine wpAnyH_ready (rs := [10]) (by kernel_rfl) (by simp) ?_
          refine AllReadyH.cons (o := { dst := some 41, op := Go.Op.call { callee := Go.Callee.builtin Go.Builtin.append, args := #[Go.Operand.tmp 32, Go.Operand.tmp 40], argTypes := #[22, 22] }, type := 22, pos := "l10_chain.go:82", after := #[{ on := 1, ground := Go.Ground.data }, { on := 9, ground := Go.Ground.data }], guard := none }) rfl (fun K hK => ?_) AllReadyH.nil
          refine step_append_int hOD z rfl _ _ rfl rfl rfl (by have := unhide HLN; omega) (by omega) ?_
          intro g cap w5 hO5 hg5 hb5 hgl hz5
          have hS5 := hDB.trans (hb5.mono (by omega))
          have hC5 := box_lowC hCD hb5 (by omega)
          have hR5 := box_lowC hRD hb5 (by omega)
          have y1 := Box.at hC5 1 _ rfl
          simp only [List.getElem_toArray, List.getElem_cons_zero, List.getElem_cons_succ] at y1
          have yf := Box.soft hC5
          have yl := Box.lt hC5
          refine hK.out _ _ hS5 (fun hHeld => ?_)
          clear hK K
          try simp only [Act.put, List.setIfInBounds_toArray, List.set_cons_zero, List.set_cons_succ]
          refine wpAnyH_take (i := 11) (oi := { dst := some 42, op := Go.Op.fieldAddr 27 (Go.Operand.tmp 5) 1, type := 0, pos := "l10_chain.go:82", after := #[{ on := 0, ground := Go.Ground.phase }, { on := 1, ground := Go.Ground.phase }, { on := 2, ground := Go.Ground.phase }, { on := 3, ground := Go.Ground.phase }, { on := 4, ground := Go.Ground.phase }, { on := 5, ground := Go.Ground.phase }, { on := 6, ground := Go.Ground.phase }, { on := 7, ground := Go.Ground.phase }, { on := 8, ground := Go.Ground.phase }, { on := 9, ground := Go.Ground.phase }, { on := 10, ground := Go.Ground.phase }], guard := none }) (v := ?vu11_11) rfl (by kernel_rfl) (by kernel_rfl) (by kernel_rfl) (fun _ _ _ h => h) (Or.inl ⟨by rfl, ?hu11_11⟩) hHeld ?ru11_11
          case hu11_11 =>
            intro wS hSw
            (try dsimp only at hSw)
            go_simp
            try with_reducible rfl
          case ru11_11 =>
          simp only [Act.put, List.setIfInBounds_toArray, List.set_cons_zero, List.set_cons_succ]
          refine wpAnyH_ready (rs := [12]) (by kernel_rfl) (by simp) ?_
          refine AllReadyH.cons (o := { dst := none, op := Go.Op.store 22 (Go.Operand.tmp 42) (Go.Operand.tmp 41), type := 0, pos := "l10_chain.go:82", after := #[{ on := 11, ground := Go.Ground.data }, { on := 10, ground := Go.Ground.data }, { on := 10, ground := Go.Ground.chain }, { on := 0, ground := Go.Ground.phase }, { on := 1, ground := Go.Ground.phase }, { on := 2, ground := Go.Ground.phase }, { on := 3, ground := Go.Ground.phase }, { on := 4, ground := Go.Ground.phase }, { on := 5, ground := Go.Ground.phase }, { on := 6, ground := Go.Ground.phase }, { on := 7, ground := Go.Ground.phase }, { on := 8, ground := Go.Ground.phase }, { on := 9, ground := Go.Ground.phase }, { on := 10, ground := Go.Ground.phase }], guard := none }) rfl (fun K hK => ?_) AllReadyH.nil
          go_simp
          try go_wp2_with fail
          refine hK.out _ _ (hS5.setCell (p := ⟨w.heap.size + 1, 1, none⟩) (by simp) (.slice (some ⟨g, 0, none⟩) ((cutL (x.ids.take k) id).length + 1) cap)) (fun hHeld => ?_)
          clear hK K
          try simp only [Act.put, List.setIfInBounds_toArray, List.set_cons_zero, List.set_cons_succ]
          refine wpAnyH_done (by kernel_rfl) ?_ _
          refine NoPanic.normal ?_
          have HC6 : Hid (Box 0 #[.int .i64 (x.epoch + 1), .slice (some ⟨g, 0, none⟩) ((cutL (x.ids.take k) id).length + 1) cap] 27 (w5.setCell ⟨w.heap.size + 1, 1, none⟩ (.slice (some ⟨g, 0, none⟩) ((cutL (x.ids.take k) id).length + 1) cap)) (w.heap.size + 1)) := Box.set hC5 1 (.slice (some ⟨g, 0, none⟩) ((cutL (x.ids.take k) id).length + 1) cap)
          have HR6 := hide (hR5.other ⟨w.heap.size + 1, 1, none⟩ (.slice (some ⟨g, 0, none⟩) ((cutL (x.ids.take k) id).length + 1) cap) (by simp))
          have HO6 : Hid (World.ownsRow (w5.setCell ⟨w.heap.size + 1, 1, none⟩ (.slice (some ⟨g, 0, none⟩) ((cutL (x.ids.take k) id).length + 1) cap)) (w.heap.size + 2) 2 1 (.slice (some ⟨g, 0, none⟩) ((cutL (x.ids.take k) id).length + 1) cap) (cutL (x.ids.take (k + 1)) id).length ((cutL (x.ids.take (k + 1)) id).map (Value.int .i64))) := by
            have := own_setC (a := ⟨w.heap.size + 1, 1, none⟩) hO5 (by simp) (.slice (some ⟨g, 0, none⟩) ((cutL (x.ids.take k) id).length + 1) cap)
            rw [unhide HST, List.length_append, List.map_append]
            exact this
          have HB6 := hide (((unhide HBr).trans ((hDB.trans (hb5.mono (by omega))).mono (by omega))).setCell (p := ⟨w.heap.size + 1, 1, none⟩) (by simp) (.slice (some ⟨g, 0, none⟩) ((cutL (x.ids.take k) id).length + 1) cap))
          clear hHeld hCD hRD hOD hDB hC9 nb9 hS9 hS5 hC5 hR5 hO5 hg5 hb5 c1 cl
          go_wp2_with fail
          go_roundw
          case rel => exact ⟨k + 1, _, by omega, by go_num, unhide HC6, unhide HR6, unhide HO6, by simp; omega, unhide HB6⟩
          case measure => simp [intOf]; omega
    · obtain rfl : k = x.ids.length := by omega
      rw [List.take_length] at hO
      have hdl : decide ((x.ids.length : Int) < (x.ids.length : Int)) = false := by simp
      obtain ⟨a9, c9, rfl⟩ := own_shape hO
      have c0 := Box.at hC 0 _ rfl
      have c1 := Box.at hC 1 _ rfl
      have z0 := Box.at hR 0 _ rfl
      have z1 := Box.at hR 1 _ rfl
      simp only [List.getElem_toArray, List.getElem_cons_zero, List.getElem_cons_succ] at c0 c1 z0 z1
      have cl := Box.lt hC
      have ff := Box.soft hR
      have l0 := Box.lt hR
      have HO6 : Hid (World.ownsRow ((wr.setCell ⟨w.heap.size, 0, none⟩ (.int .i64 (x.epoch + 1))).setCell ⟨w.heap.size, 1, none⟩ (.slice a9 (cutL x.ids id).length c9)) w.heap.size 2 1 (.slice a9 (cutL x.ids id).length c9) (cutL x.ids id).length ((cutL x.ids id).map (Value.int .i64))) := own_mono (by omega) (own_setC (a := ⟨w.heap.size, 1, none⟩) (own_setC (a := ⟨w.heap.size, 0, none⟩) hO (by simp) (.int .i64 (x.epoch + 1))) (by simp) _)
      have HB6 := hide ((hB.setCell (p := ⟨w.heap.size, 0, none⟩) (Nat.le_refl _) (.int .i64 (x.epoch + 1))).setCell (p := ⟨w.heap.size, 1, none⟩) (Nat.le_refl _) (.slice a9 (cutL x.ids id).length c9))
      clear hC hR hO hB
      go_wp2_with fail
      refine bodyPost_ret (v := .agg #[.int .i64 (x.epoch + 1), .slice a9 (cutL x.ids id).length c9]) (by simp [results, Try.results42, go_sem, z0, z1]) rfl ?_
      exact ⟨_, rfl, unhide HO6, unhide HB6⟩
set_option maxRecDepth 10000 in
set_option maxHeartbeats 2000000 in
theorem specCutChain (cs : List Value) (x : DChain) (id : Int) (w : World) (h : Lay.tChain.Reads w cs x) :
    Calls Try.prog 24 #[.agg cs.toArray, .int .i64 id] w fun e w' => ∃ cs, e = .returned (.agg cs.toArray) ∧ Lay.tChainResult.OwnIn w' cs (cutR x id) w.heap.size w'.heap.size ∧ Below w.heap.size w w' := by
  obtain ⟨a, d, rfl, R⟩ := open_Chain h
  have nb : Below w.heap.size w ((w.alloc (.cells #[.int .i64 x.epoch, .slice a x.ids.length d] 27)).alloc (.cells #[.int .i64 0, .int .i64 0, .slice none 0 0] 32)) := ((Below.refl _ _).alloc (Nat.le_refl _) _).alloc (by simp) _
  have hX : ChainAt ((w.alloc (.cells #[.int .i64 x.epoch, .slice a x.ids.length d] 27)).alloc (.cells #[.int .i64 0, .int .i64 0, .slice none 0 0] 32)) w.heap.size (.slice a x.ids.length d) x := (newBox (Nat.zero_le _)).grow _
  have bR : Box 0 #[.int .i64 0, .int .i64 0, .slice none 0 0] 32 ((w.alloc (.cells #[.int .i64 x.epoch, .slice a x.ids.length d] 27)).alloc (.cells #[.int .i64 0, .int .i64 0, .slice none 0 0] 32)) (w.heap.size + 1) := newBoxAt (Nat.zero_le _) (by simp)
  have HF := hide (l10FaultC w.heap.size a d x _ hX (R.later nb))
  have HA := hide (l10AtC w.heap.size a d x id _ hX (R.later nb))
  have H := hide (R.later nb)
  have HWF := hide (int_wf R)
  have x0 := Box.at hX 0 _ rfl
  have x1 := Box.at hX 1 _ rfl
  have z0 := Box.at bR 0 _ rfl
  have z1 := Box.at bR 1 _ rfl
  have z2 := Box.at bR 2 _ rfl
  simp only [List.getElem_toArray, List.getElem_cons_zero, List.getElem_cons_succ] at x0 x1 z0 z1 z2
  have ff := Box.soft bR
  have l0 := Box.lt bR
  have xl := Box.lt hX
  have HB := hide nb
  have HX := hide hX
  have HR := hide bR
  clear h R nb hX bR
  go_enter Try.func24, Try.ntmps24
  go_wp2_with fail
  generalize (w.alloc (.cells #[.int .i64 x.epoch, .slice a x.ids.length d] 27)).alloc (.cells #[.int .i64 0, .int .i64 0, .slice none 0 0] 32) = W at *
  refine (unhide HF).mono ?_
  rintro e w1 ⟨rfl, h1⟩
  subst w1
  clear HF
  by_cases hc : chainFault x = 0
  · have ok := chainFault_zero hc
    have hlen := ok.len
    have hep := ok.epoch
    have HV0 : Hid (cutR x id = _) := (if_pos hc)
    rw [hc]
    clear hc ok
    go_wp2_with fail
    refine (unhide HA).mono ?_
    rintro e w1 ⟨rfl, h1⟩
    subst w1
    clear HA
    by_cases h0 : placeC x.ids id < 0
    · have HV : Hid (cutR x id = badChain 4) := (unhide HV0).trans (if_pos h0)
      have hd0 : decide (placeC x.ids id < 0) = true := by simpa using h0
      clear HV0
      generalize placeC x.ids id = p at *
      have HB2 := hide (below_setAll (unhide HB) (w.heap.size + 1) 0 [.int .i64 (4), .int .i64 0, .slice none 0 0] (by omega))
      clear HB
      go_wp2_with fail
      refine bodyPost_ret (v := .agg #[.int .i64 (4), .int .i64 0, .slice none 0 0]) (by simp [results, Try.results24, go_sem, z0, z1, z2]) rfl ?_
      rw [unhide HV]
      exact ⟨_, rfl, own_badChain (by omega), unhide HB2⟩
    · have hd0 : decide (placeC x.ids id < 0) = false := by simpa using h0
      have HV1 := hide ((unhide HV0).trans (if_neg h0))
      clear HV0
      generalize placeC x.ids id = p at *
      by_cases h1 : x.ids.length = 1
      · have HV : Hid (cutR x id = badChain 8) := (unhide HV1).trans (if_pos h1)
        have hd1 : ((x.ids.length : Int) == 1) = true := by rw [h1]; rfl
        clear HV1 h1
        have HB2 := hide (below_setAll (unhide HB) (w.heap.size + 1) 0 [.int .i64 (8), .int .i64 0, .slice none 0 0] (by omega))
        clear HB
        go_wp2_with fail
        refine bodyPost_ret (v := .agg #[.int .i64 (8), .int .i64 0, .slice none 0 0]) (by simp [results, Try.results24, go_sem, z0, z1, z2]) rfl ?_
        rw [unhide HV]
        exact ⟨_, rfl, own_badChain (by omega), unhide HB2⟩
      · have HV2 := hide ((unhide HV1).trans (if_neg h1))
        have hd1 : ((x.ids.length : Int) == 1) = false := by rw [beq_eq_false_iff_ne]; omega
        clear HV1
        by_cases h2 : 999 ≤ x.epoch
        · have HV : Hid (cutR x id = badChain 2) := (unhide HV2).trans (if_pos h2)
          have hd2 : decide ((999 : Int) ≤ x.epoch) = true := by simpa using h2
          clear HV2
          have HB2 := hide (below_setAll (unhide HB) (w.heap.size + 1) 0 [.int .i64 (2), .int .i64 0, .slice none 0 0] (by omega))
          clear HB
          go_wp2_with fail
          refine bodyPost_ret (v := .agg #[.int .i64 (2), .int .i64 0, .slice none 0 0]) (by simp [results, Try.results24, go_sem, z0, z1, z2]) rfl ?_
          rw [unhide HV]
          exact ⟨_, rfl, own_badChain (by omega), unhide HB2⟩
        · have HV : Hid (cutR x id = ⟨0, ⟨x.epoch + 1, cutL x.ids id⟩⟩) := (unhide HV2).trans (if_neg h2)
          have hd2 : decide ((999 : Int) ≤ x.epoch) = false := by simpa using h2
          have HL := hide (l10CutC w.heap.size a d x id W (unhide HX) (unhide H) (by omega) (by omega))
          have hcl := cutL_len x.ids id
          clear HV2 z0 z1 z2 ff l0
          go_wp2_with fail
          refine (unhide HL).mono ?_
          rintro e w1 ⟨v, rfl, hO, hb⟩
          obtain ⟨a9, c9, rfl⟩ := own_shape hO
          clear HL
          have bR := (unhide HR).keep hb
          have hlt := (unhide HR).lt
          have z0 := Box.at bR 0 _ rfl
          have z1 := Box.at bR 1 _ rfl
          have z2 := Box.at bR 2 _ rfl
          simp only [List.getElem_toArray, List.getElem_cons_zero, List.getElem_cons_succ] at z0 z1 z2
          have ff := Box.soft bR
          have l0 := Box.lt bR
          have hB1 := (unhide HB).trans (hb.mono (unhide HB).size)
          have HB2 := hide (below_setAll hB1 (w.heap.size + 1) 0 [.int .i64 0, .int .i64 (x.epoch + 1), .slice a9 (cutL x.ids id).length c9] (by omega))
          have hO2 : (setAll w1 (w.heap.size + 1) 0 [.int .i64 0, .int .i64 (x.epoch + 1), .slice a9 (cutL x.ids id).length c9]).ownsRow W.heap.size 2 1 (.slice a9 (cutL x.ids id).length c9) (cutL x.ids id).length ((cutL x.ids id).map (Value.int .i64)) := own_setC (a := ⟨w.heap.size + 1, 2, none⟩) (own_setC (a := ⟨w.heap.size + 1, 1, none⟩) (own_setC (a := ⟨w.heap.size + 1, 0, none⟩) hO hlt (.int .i64 0)) hlt (.int .i64 (x.epoch + 1))) hlt _
          have HO3 := hide (own_chainR (c := 0) (x := ⟨x.epoch + 1, cutL x.ids id⟩) (by decide) (wf_of_bd (by simp only; omega)) (own_intsC (zs := cutL x.ids id) (fun z hz => unhide HWF z (List.mem_filter.1 hz).1) (by omega) (own_mono (b' := w.heap.size) (by omega) hO2)))
          clear bR hO hb hB1 hO2 HB HR
          go_wp2_with fail
          refine bodyPost_ret (v := .agg #[.int .i64 0, .int .i64 (x.epoch + 1), .slice a9 (cutL x.ids id).length c9]) (by simp [results, Try.results24, go_sem, z0, z1, z2]) rfl ?_
          rw [unhide HV]
          exact ⟨_, rfl, unhide HO3, unhide HB2⟩
  · have HV := hide (cutR_bad (id := id) hc)
    have hv := chainFault_vals x
    have hc2 : (chainFault x != 0) = true := by simpa using hc
    clear hc HA
    generalize chainFault x = f at *
    have HB2 := hide (below_setAll (unhide HB) (w.heap.size + 1) 0 [.int .i64 (f), .int .i64 0, .slice none 0 0] (by omega))
    clear HB
    go_wp2_with fail
    refine bodyPost_ret (v := .agg #[.int .i64 (f), .int .i64 0, .slice none 0 0]) (by simp [results, Try.results24, go_sem, z0, z1, z2]) rfl ?_
    rw [unhide HV]
    exact ⟨_, rfl, own_badChain (by omega), unhide HB2⟩
end Go.Proofs.Ytceoaphcjnfphaa

namespace Go.Proofs.Ytceoaphcjnfphaa
open Go.RowKit

theorem ints_cnt (l : List Int) : cntAll Lay.int.cnt l = l.length := by
  induction l with
  | nil => rfl
  | cons y ys ih => simp only [cntAll, List.length_cons, ih]; show 1 + ys.length = _; omega
theorem chain_few (y : DChainResult) (hl : y.chain.ids.length ≤ 1000) : Lay.tChainResult.vcnt y ≤ 100000000 := by
  rw [vcnt_ChainResult, vcnt_Chain]
  show cntAll Lay.int.cnt y.chain.ids ≤ 100000000
  rw [ints_cnt]
  omega
theorem badChain_few (c : Int) : Lay.tChainResult.vcnt (badChain c) ≤ 100000000 := chain_few _ (by simp [badChain, noChain])
theorem newChainR_few (n : Int) : Lay.tChainResult.vcnt (newChainR n) ≤ 100000000 := by
  unfold newChainR
  split
  · refine chain_few _ ?_
    show (upToC n.toNat).length ≤ 1000
    rw [upToC_len]
    omega
  · exact badChain_few _
theorem cutR_few (x : DChain) (id : Int) : Lay.tChainResult.vcnt (cutR x id) ≤ 100000000 := by
  unfold cutR
  split
  · rename_i h
    have hl := (chainFault_zero h).len
    split
    · exact badChain_few _
    · split
      · exact badChain_few _
      · split
        · exact badChain_few _
        · refine chain_few _ ?_
          show (x.ids.filter fun z => z != id).length ≤ 1000
          have := List.length_filter_le (fun z => z != id) x.ids
          omega
  · exact badChain_few _
theorem joinR_few (x : DChain) (id : Int) : Lay.tChainResult.vcnt (joinR x id) ≤ 100000000 := by
  unfold joinR
  split
  · rename_i h
    have hl := (chainFault_zero h).len
    split
    · split
      · exact badChain_few _
      · split
        · exact badChain_few _
        · refine chain_few _ ?_
          show (x.ids ++ [id]).length ≤ 1000
          simp
          omega
    · exact badChain_few _
  · exact badChain_few _
end Go.Proofs.Ytceoaphcjnfphaa

namespace Go.Proofs.Ytceoaphcjnfphaa
open Go.RowKit

theorem lawCutChain (cs : List Value) (x : DChain) (id : Int) (w : World) (h : Lay.tChain.Reads w cs x) :
    Calls Try.prog 7 #[.agg cs.toArray, .int .i64 id] w fun e w' => e = .returned (.bool true) ∧ Below w.heap.size w w' := by
  by_cases hn : Lay.tChain.sz x ≤ 1048576
  · refine lawx_CutChain cs x id (cutR x id) w h hn (fun W a ha => (specCutChain a x id W ha).mono fun e w' q => ?_) (fun W a ha => implCutChain a x id W ha) (cutR_few x id)
    obtain ⟨cs, q1, q2, q3⟩ := q
    exact ⟨cs, q1, q2.reads, q3⟩
  · exact lawover_CutChain cs x id w h (by omega)

end Go.Proofs.Ytceoaphcjnfphaa

namespace Go.Proofs.Ytceoaphcjnfphaa
open Go.RowKit Go.ChangeShapes Go.WideShapes

/-- Whatever reads as data of the type t lies as A says. -/
def Opens {α : Type} (A : Lay α) (t : TypeId) : Prop :=
  ∀ {H : Type} (enc : TypeId × Value → H) (W : World) (base : Nat) (spare : Nat → Bool) (held : Bool) (fuel : Nat) (cs : List Value) (x : DataW H × List MemPlace), DataW.trod enc Try.prog W base spare held fuel t cs = some x → ∃ y, A.Reads W cs y

theorem reads_pair {α β : Type} {A : Lay α} {B : Lay β} {W : World} {c1 c2 : List Value} {x : α} {y : β} (h : A.Reads W c1 x) (k : B.Reads W c2 y) : (Lay.pair A B).Reads W (c1 ++ c2) (x, y) := by
  obtain ⟨b1, h⟩ := h
  obtain ⟨b2, k⟩ := k
  exact ⟨b1 ++ b2, c1, c2, b1, b2, rfl, rfl, h, k⟩

theorem opens_int {t : TypeId} (ht : Try.prog.underlying t = some (.int .i64)) : Opens Lay.int t := by
  intro H enc W base spare held fuel cs x h
  obtain ⟨n, rfl, -, hw⟩ := DataW.trod_int ht h
  exact ⟨n, [], rfl, hw, rfl⟩
theorem opens_bool {t : TypeId} (ht : Try.prog.underlying t = some .bool) : Opens Lay.bool t := by
  intro H enc W base spare held fuel cs x h
  obtain ⟨b, rfl, -⟩ := DataW.trod_bool ht h
  exact ⟨b, [], rfl, rfl⟩
theorem opens_str {t : TypeId} (ht : Try.prog.underlying t = some .string) : Opens Lay.str t := by
  intro H enc W base spare held fuel cs x h
  obtain ⟨s, rfl, -, -⟩ := DataW.trod_string ht h
  exact ⟨s, [], rfl, rfl⟩

theorem opens_sl {α : Type} {A : Lay α} {t e : TypeId} (ht : Try.prog.underlying t = some (.slice e)) (hn : Try.prog.cellsOf e = A.n) (h0 : 0 < A.n) (h : Opens A e) : Opens (Lay.sl A) t := by
  intro H enc W base spare held fuel cs x hx
  rcases Go.Deep.open_slice ht hx with ⟨rfl, -⟩ | ⟨a, len, cap, m, n, D, Pl, rfl, hb, hl, hm, hmm, -, hel⟩
  · exact ⟨[], [], none, 0, rfl, ⟨Nat.le_refl _, by simp⟩, Or.inl ⟨rfl, rfl⟩⟩
  · have hlm : len ≤ m := by rw [hmm]; split <;> omega
    rw [hn] at hel
    have each : ∀ i, i < len → ∃ q : List Value × α, (∀ j, j < A.n → W.cell? (a.add (i * A.n + j)) = q.1[j]?) ∧ q.1.length = A.n ∧ A.Reads W q.1 q.2 := by
      intro i hi
      obtain ⟨cs', h1, h2⟩ := hel i (by omega)
      obtain ⟨-, hlen, hc⟩ := World.cells?_some h1
      obtain ⟨y, hy⟩ := h enc W base spare held n cs' _ h2
      refine ⟨(cs', y), fun j hj => ?_, hlen, hy⟩
      have := hc j hj
      rw [Addr.add_add] at this
      exact this
    by_cases hp : 0 < len
    · obtain ⟨b, off, spot⟩ := a
      obtain ⟨q0, c0, l0, -⟩ := each 0 hp
      have hc0 := c0 0 h0
      have hs0 : ∃ v, W.cell? ((⟨b, off, spot⟩ : Addr).add (0 * A.n + 0)) = some v := ⟨_, hc0.trans (List.getElem?_eq_getElem (by omega))⟩
      obtain ⟨v0, hv0⟩ := hs0
      have hspot : spot = none := by simpa [Addr.add] using World.cell?_spot hv0
      subst hspot
      have hbl : b < W.heap.size := by
        have := World.block_lt_of_cell? _ _ hv0
        simpa [Addr.add] using this
      have pick : ∃ f : (i : Nat) → i < len → List Value × α, ∀ i (hi : i < len), (∀ j, j < A.n → W.cell? ((⟨b, off, none⟩ : Addr).add (i * A.n + j)) = (f i hi).1[j]?) ∧ (f i hi).1.length = A.n ∧ A.Reads W (f i hi).1 (f i hi).2 :=
        ⟨fun i hi => Classical.choose (each i hi), fun i hi => Classical.choose_spec (each i hi)⟩
      obtain ⟨f, hf⟩ := pick
      have pick2 : ∃ g : (i : Nat) → i < len → List Nat, ∀ i (hi : i < len), A.lies W (f i hi).1 (f i hi).2 (g i hi) :=
        ⟨fun i hi => Classical.choose (hf i hi).2.2, fun i hi => Classical.choose_spec (hf i hi).2.2⟩
      obtain ⟨g, hg⟩ := pick2
      refine ⟨(List.finRange len).map (fun i => (f i.1 i.2).2), b :: ((List.finRange len).map (fun i => g i.1 i.2)).flatten, some ⟨b, off, none⟩, cap, by simp, ⟨by simpa using hl, by simp; unfold maxLen at hm; omega⟩, Or.inr ⟨b, off, (List.finRange len).map (fun i => (f i.1 i.2).1), (List.finRange len).map (fun i => g i.1 i.2), rfl, hbl, rfl, by simp, by simp, fun j h1 h2 h3 => ?_⟩⟩
      have hj : j < len := by simpa using h1
      refine ⟨fun k hk => ?_, ?_⟩
      · have := (hf j hj).1 k hk
        rw [Addr.add_lit] at this
        simpa [Nat.add_assoc] using this
      · simpa using hg j hj
    · obtain rfl : len = 0 := by omega
      exact ⟨[], [], some a, cap, rfl, ⟨hl, by simp⟩, Or.inl ⟨rfl, rfl⟩⟩

theorem open_arg {α : Type} {A : Lay α} {t : TypeId} (O : Opens A t) {H : Type} {enc : TypeId × Value → H} {W : World} {base : Nat} {spare : Nat → Bool} {held : Bool} {a : Option Addr} {len cap : Nat} {d : DataW H} {p : List MemPlace}
    (h : DataW.Trod enc Try.prog W base spare held t (.slice a len cap) d p) : ∃ y, A.Reads W [.slice a len cap] y := by
  obtain ⟨fuel, hf⟩ := h
  exact O enc W base spare held fuel _ _ (by simpa [Value.cells] using hf)
theorem open_arg_st {α : Type} {A : Lay α} {t : TypeId} (O : Opens A t) {H : Type} {enc : TypeId × Value → H} {W : World} {base : Nat} {spare : Nat → Bool} {held : Bool} {cs : Array Value} {d : DataW H} {p : List MemPlace}
    (h : DataW.Trod enc Try.prog W base spare held t (.agg cs) d p) : ∃ y, A.Reads W cs.toList y := by
  obtain ⟨fuel, hf⟩ := h
  exact O enc W base spare held fuel _ _ (by simpa [Value.cells] using hf)

end Go.Proofs.Ytceoaphcjnfphaa

namespace Go.Proofs.Ytceoaphcjnfphaa
open Go.RowKit

set_option maxRecDepth 10000 in
theorem opens_Chain : Opens Lay.tChain 24 := by
  intro H enc W base spare held fuel cs x h
  obtain ⟨xs, n, _, _, hlen, hl, hfi⟩ := DataW.trod_struct Try.underlying24 h
  rw [show Try.prog.cellsOf 24 = 2 by kernel_rfl] at hlen
  match cs, hlen with
  | [c0, c1], _ =>
  match xs, hl with
  | [y0, y1], _ =>
  have z0 : Try.prog.cellsOf 2 = 1 := by kernel_rfl
  have z1 : Try.prog.cellsOf 22 = 1 := by kernel_rfl
  have f0 : DataW.trod enc Try.prog W base spare held n 2 (([c0, c1].drop 0).take (Try.prog.cellsOf 2)) = some y0 := hfi 0 _ rfl
  rw [z0] at f0
  obtain ⟨d0, r0⟩ := (opens_int Try.underlying2) enc W base spare held n _ _ f0
  have f1 : DataW.trod enc Try.prog W base spare held n 22 (([c0, c1].drop 1).take (Try.prog.cellsOf 22)) = some y1 := hfi 1 _ rfl
  rw [z1] at f1
  obtain ⟨d1, r1⟩ := (opens_sl Try.underlying22 (by kernel_rfl) (by decide) (opens_int Try.underlying2)) enc W base spare held n _ _ f1
  exact ⟨⟨d0, d1⟩, (reads_pair r0 r1)⟩

end Go.Proofs.Ytceoaphcjnfphaa
