/-
  AssignAll of the model; nothing old is written.
  No condition.
-/
import Derived.Test.YtjofcmdlcoganaaSpecAsk6
import Derived.Test.YtjofcmdlcoganaaSpecNear
import Derived.Test.YtjofcmdlcoganaaStepInt
import Derived.Test.YtjofcmdlcoganaaImplAssign
namespace Go.Proofs.Ytjofcmdlcoganaa
open Go.RowKit

set_option maxRecDepth 100000 in
set_option maxHeartbeats 2000000 in
theorem specAssign_ok (v : Value) (cs : List DCenter) (ao : Option Addr) (cap : Nat) (xs : List DItem) (w : World) (hcs : (Lay.sl Lay.tCenter).Reads w [v] cs) (h : (Lay.sl Lay.tItem).Reads w [.slice ao xs.length cap] xs) (hf : askFault cs xs = 0) :
    Calls Try.prog 29 #[v, .slice ao xs.length cap] w fun e w' => ∃ cs', e = .returned (.agg cs'.toArray) ∧ Lay.tIntsResult.OwnIn w' cs' ⟨0, placesL cs xs⟩ w.heap.size w'.heap.size ∧ Below w.heap.size w w' := by
  obtain ⟨hfc, hft⟩ := askFault_zero hf
  obtain ⟨hlen, hall, -⟩ := tableFault_zero hft
  have hxv : ∀ x ∈ xs, vecFault x.vec = 0 := fun x hm => (hall x hm).2
  have HB0 : Below w.heap.size w (w.alloc (.cells #[.int .i64 0, .slice none 0 0] 37)) := (Below.refl _ _).alloc (Nat.le_refl _) _
  have bR : Box w.heap.size #[.int .i64 0, .slice none 0 0] 37 (w.alloc (.cells #[.int .i64 0, .slice none 0 0] 37)) w.heap.size := newBox (Nat.le_refl _)
  have hc1 := hcs.later HB0
  have hx1 := h.later HB0
  have HXV := hide hxv
  have HFC := hide hfc
  obtain ⟨ao2, cap2, rfl⟩ := open_sl hcs
  clear hcs h hall hxv hfc hft
  go_enter Try.func29, Try.ntmps29
  go_wp2_with fail
  generalize w.alloc (.cells #[.int .i64 0, .slice none 0 0] 37) = W0 at *
  refine (specAsk6 _ cs _ xs W0 hc1 hx1).mono ?_
  rintro e w1 ⟨rfl, hb⟩
  rw [hf]
  have HC := hide (hc1.later hb)
  have HX := hide (hx1.later hb)
  replace bR := bR.keep hb
  replace HB0 := HB0.trans (hb.mono HB0.size)
  have hw1 := bR.lt
  have HB := hide HB0
  have HR := hide bR
  have HNB : Hid (Below w1.heap.size w1 (w1.alloc (.cells #[.int .i64 0, .slice none 0 0] 37))) := (Below.refl _ _).alloc (Nat.le_refl _) _
  have HNX : Hid (Box w.heap.size #[.int .i64 0, .slice none 0 0] 37 (w1.alloc (.cells #[.int .i64 0, .slice none 0 0] 37)) w1.heap.size) := newBox (by omega)
  clear hb HB0 bR hc1 hx1 hf
  go_wp2_with fail
  go_loopw [7] (fun i wr => ∃ (k : Nat) (r : Value), k ≤ xs.length ∧ i = .int .i64 k ∧ Box w.heap.size #[.int .i64 0, r] 37 wr w1.heap.size ∧ wr.ownsRow (w1.heap.size + 1) 2 1 r k (((placesL cs xs).take k).map (Value.int .i64)) ∧ Below w1.heap.size w1 wr) (fun i _ => xs.length - (intOf i).toNat)
  case atStart => exact ⟨0, _, Nat.zero_le _, rfl, unhide HNX, World.ownsRow_nil _ _ _ _, unhide HNB⟩
  case round =>
    obtain ⟨k, r, hk, rfl, hX, hown, hB⟩ := hrel
    clear HNX HNB
    by_cases hlt : k < xs.length
    · obtain ⟨b, off, rfl, hbl⟩ := Lay.sl_addr (unhide HX) (by omega)
      obtain ⟨row, hc, hr⟩ := Lay.row_at (unhide HX) hlt
      obtain ⟨a1, d1, rfl, R1⟩ := open_Item hr
      have c1 : w1.cell? ⟨b, off + k * 2 + 1, none⟩ = some (.slice a1 (xs[k]).vec.length d1) := hc 1 (by decide)
      have hvx := unhide HXV xs[k] (List.getElem_mem hlt)
      have HTK : Hid (((placesL cs xs).take (k + 1)).map (Value.int .i64) = ((placesL cs xs).take k).map (Value.int .i64) ++ [.int .i64 (near cs xs[k].vec : Nat)]) := by
        show ((placesL cs xs).take (k + 1)).map (Value.int .i64) = _
        rw [List.take_succ_eq_append_getElem (by rw [places_len]; exact hlt), List.map_append]
        simp [placesL]
      clear hc hr
      generalize hx : xs[k] = x at *
      clear hx
      have I1 := hide (Lay.ints_reads R1)
      have HVX := hide hvx
      have LN : Hid (∀ W, Below w1.heap.size w1 W → Calls Try.prog 65 #[.slice ao2 cs.length cap2, .slice a1 x.vec.length d1] W fun e w' => e = .returned (.int .i64 (near cs x.vec : Nat)) ∧ Below W.heap.size W w') := fun W hW => specNear _ cs _ x.vec W ((unhide HC).later hW) ((unhide I1).later hW) (unhide HFC) (unhide HVX)
      clear R1 hvx I1 HVX
      generalize hnr : near cs x.vec = nr at *
      clear hnr
      have hXD : Box w.heap.size #[.int .i64 0, r] 37 wr.drew w1.heap.size := hX.drew
      have hOD : wr.drew.ownsRow (w1.heap.size + 1) 2 1 r k (((placesL cs xs).take k).map (Value.int .i64)) := hown.drew
      have hHD : Below w1.heap.size w1 wr.drew := hB.drew
      have HB2 := hide hB
      clear hX hown hB
      have i1 : (0 : Int) ≤ (k : Int) := by omega
      have i2 : (k : Int) < (xs.length : Int) := by omega
      go_wp2_with fail
      refine wp_region_noPanic ?_
      refine wp_region_held_drew (S := fun w' => Below w1.heap.size w1 w') (by kernel_rfl) (unhide HB2).drew (fun hHeld => ?_)
      generalize wr.drew = wD at hHeld hXD hOD hHD ⊢
      refine wpAnyH_take (i := 0) (oi := { dst := some 22, op := Go.Op.fieldAddr 37 (Go.Operand.tmp 6) 1, type := 0, pos := "l06_center.go:54", after := #[], guard := none }) (v := ?v0_1) rfl (by kernel_rfl) (by kernel_rfl) (by kernel_rfl) (fun _ _ _ h => h) (Or.inl ⟨by rfl, ?h0_1⟩) hHeld ?r0_1
      case h0_1 =>
        intro wS hSw
        (try dsimp only at hSw)
        go_simp
        try with_reducible rfl
      case r0_1 =>
      simp only [Act.put, List.setIfInBounds_toArray, List.set_cons_zero, List.set_cons_succ]
      refine wpAnyH_take (i := 2) (oi := { dst := some 24, op := Go.Op.move (Go.Operand.tmp 0), type := 28, pos := "l06_center.go:54", after := #[], guard := none }) (v := ?v2_2) rfl (by kernel_rfl) (by kernel_rfl) (by kernel_rfl) (fun _ _ _ h => h) (Or.inl ⟨by rfl, ?h2_2⟩) hHeld ?r2_2
      case h2_2 =>
        intro wS hSw
        (try dsimp only at hSw)
        go_simp
        try with_reducible rfl
      case r2_2 =>
      simp only [Act.put, List.setIfInBounds_toArray, List.set_cons_zero, List.set_cons_succ]
      refine wpAnyH_take (i := 3) (oi := { dst := some 25, op := Go.Op.move (Go.Operand.tmp 1), type := 24, pos := "l06_center.go:54", after := #[], guard := none }) (v := ?v3_3) rfl (by kernel_rfl) (by kernel_rfl) (by kernel_rfl) (fun _ _ _ h => h) (Or.inl ⟨by rfl, ?h3_3⟩) hHeld ?r3_3
      case h3_3 =>
        intro wS hSw
        (try dsimp only at hSw)
        go_simp
        try with_reducible rfl
      case r3_3 =>
      simp only [Act.put, List.setIfInBounds_toArray, List.set_cons_zero, List.set_cons_succ]
      refine wpAnyH_take (i := 4) (oi := { dst := some 26, op := Go.Op.move (Go.Operand.tmp 7), type := 3, pos := "l06_center.go:54", after := #[], guard := none }) (v := ?v4_4) rfl (by kernel_rfl) (by kernel_rfl) (by kernel_rfl) (fun _ _ _ h => h) (Or.inl ⟨by rfl, ?h4_4⟩) hHeld ?r4_4
      case h4_4 =>
        intro wS hSw
        (try dsimp only at hSw)
        go_simp
        try with_reducible rfl
      case r4_4 =>
      simp only [Act.put, List.setIfInBounds_toArray, List.set_cons_zero, List.set_cons_succ]
      refine wpAnyH_take (i := 5) (oi := { dst := some 27, op := Go.Op.indexAddr 24 (Go.Operand.tmp 25) (Go.Operand.tmp 26), type := 0, pos := "l06_center.go:54", after := #[{ on := 3, ground := Go.Ground.data }, { on := 4, ground := Go.Ground.data }], guard := none }) (v := ?v5_5) rfl (by kernel_rfl) (by kernel_rfl) (by kernel_rfl) (fun _ _ _ h => h) (Or.inl ⟨by rfl, ?h5_5⟩) hHeld ?r5_5
      case h5_5 =>
        intro wS hSw
        (try dsimp only at hSw)
        go_simp
        try with_reducible rfl
      case r5_5 =>
      simp only [Act.put, List.setIfInBounds_toArray, List.set_cons_zero, List.set_cons_succ]
      refine wpAnyH_take (i := 6) (oi := { dst := some 28, op := Go.Op.fieldAddr 41 (Go.Operand.tmp 27) 1, type := 0, pos := "l06_center.go:54", after := #[{ on := 5, ground := Go.Ground.data }], guard := none }) (v := ?v6_6) rfl (by kernel_rfl) (by kernel_rfl) (by kernel_rfl) (fun _ _ _ h => h) (Or.inl ⟨by rfl, ?h6_6⟩) hHeld ?r6_6
      case h6_6 =>
        intro wS hSw
        (try dsimp only at hSw)
        go_simp
        try with_reducible rfl
      case r6_6 =>
      simp only [Act.put, List.setIfInBounds_toArray, List.set_cons_zero, List.set_cons_succ]
      refine wpAnyH_take (i := 7) (oi := { dst := some 29, op := Go.Op.load 25 (Go.Operand.tmp 28), type := 25, pos := "l06_center.go:54", after := #[{ on := 6, ground := Go.Ground.data }], guard := none }) (v := ?v7_7) rfl (by kernel_rfl) (by kernel_rfl) (by kernel_rfl) (fun _ _ _ h => h) (Or.inl ⟨by rfl, ?h7_7⟩) hHeld ?r7_7
      case h7_7 =>
        intro wS hSw
        have y1 := (hSw.cell (p := ⟨b, off + k * 2 + 1, none⟩) hbl).trans c1
        clear hSw
        (try dsimp only at hSw)
        go_simp
        try with_reducible rfl
      case r7_7 =>
      simp only [Act.put, List.setIfInBounds_toArray, List.set_cons_zero, List.set_cons_succ]
      refine wpAnyH_ready (rs := [1, 8]) (by kernel_rfl) (by simp) ?_
      refine AllReadyH.cons (o := { dst := some 23, op := Go.Op.load 25 (Go.Operand.tmp 22), type := 25, pos := "l06_center.go:54", after := #[{ on := 0, ground := Go.Ground.data }], guard := none }) rfl (fun K hK => ?o1_8) (AllReadyH.cons (o := { dst := some 30, op := Go.Op.call { callee := Go.Callee.value (Go.Operand.func 65), args := #[Go.Operand.tmp 24, Go.Operand.tmp 29], argTypes := #[28, 25] }, type := 2, pos := "l06_center.go:54", after := #[{ on := 2, ground := Go.Ground.data }, { on := 7, ground := Go.Ground.data }], guard := none }) rfl (fun K hK => ?o8_8) (AllReadyH.nil))
      case o1_8 =>
        have y1 : (wD).cell? ⟨w1.heap.size, 1, none⟩ = some r := hXD.at 1 _ rfl
        go_simp
        refine hK.out _ _ hHeld (fun hHeld => ?_)
        clear hK K
        try simp only [Act.put, List.setIfInBounds_toArray, List.set_cons_zero, List.set_cons_succ]
        refine wpAnyH_ready (rs := [8]) (by kernel_rfl) (by simp) ?_
        refine AllReadyH.cons (o := { dst := some 30, op := Go.Op.call { callee := Go.Callee.value (Go.Operand.func 65), args := #[Go.Operand.tmp 24, Go.Operand.tmp 29], argTypes := #[28, 25] }, type := 2, pos := "l06_center.go:54", after := #[{ on := 2, ground := Go.Ground.data }, { on := 7, ground := Go.Ground.data }], guard := none }) rfl (fun K hK => ?_) AllReadyH.nil
        go_simp
        go_at_call 65
        refine (unhide LN _ hHeld).mono ?_
        rintro e w3 ⟨rfl, hbw⟩
        try go_wp2_with fail
        refine hK.out _ _ (hHeld.trans (hbw.mono hHeld.size)) (fun hHeld => ?_)
        clear hK K
        try simp only [Act.put, List.setIfInBounds_toArray, List.set_cons_zero, List.set_cons_succ]
        refine wpAnyH_ready (rs := [9]) (by kernel_rfl) (by simp) ?_
        refine AllReadyH.cons (o := { dst := some 31, op := Go.Op.buildSlice 25 1 #[(0, Go.Operand.tmp 30)], type := 25, pos := "l06_center.go:54", after := #[{ on := 8, ground := Go.Ground.data }], guard := none }) rfl (fun K hK => ?_) AllReadyH.nil
        go_simp
        refine hK.out _ _ (hHeld.alloc hHeld.size _) (fun hHeld => ?_)
        clear hK K
        try simp only [Act.put, List.setIfInBounds_toArray, List.set_cons_zero, List.set_cons_succ]
        refine wpAnyH_ready (rs := [10]) (by kernel_rfl) (by simp) ?_
        refine AllReadyH.cons (o := { dst := some 32, op := Go.Op.call { callee := Go.Callee.builtin Go.Builtin.append, args := #[Go.Operand.tmp 23, Go.Operand.tmp 31], argTypes := #[25, 25] }, type := 25, pos := "l06_center.go:54", after := #[{ on := 1, ground := Go.Ground.data }, { on := 9, ground := Go.Ground.data }, { on := 8, ground := Go.Ground.chain }], guard := none }) rfl (fun K hK => ?_) AllReadyH.nil
        have hO3 := own_below hOD hbw
        have hz3 := hbw.size
        refine step_append_int hO3 (nr : Int) rfl _ _ rfl rfl rfl (by omega) (by have := hHD.size; have := hXD.lt; omega) ?_
        rintro g5 cp5 w5 hO5 hg5 hb5 hl5 hz5
        have hX5 : Box w.heap.size #[.int .i64 0, r] 37 w5 w1.heap.size := ⟨hXD.1, (hg5.block w1.heap.size (by have := hXD.lt; omega) (fun e => by have := (hO3.lt _ e.symm).1; omega)).trans (hXD.keep hbw).2⟩
        refine hK.out _ _ ((hHD.trans (hbw.mono hHD.size)).trans (hb5.mono (by omega))) (fun hHeld => ?_)
        clear hK K
        try simp only [Act.put, List.setIfInBounds_toArray, List.set_cons_zero, List.set_cons_succ]
        refine wpAnyH_take (i := 11) (oi := { dst := some 33, op := Go.Op.fieldAddr 37 (Go.Operand.tmp 6) 1, type := 0, pos := "l06_center.go:54", after := #[{ on := 0, ground := Go.Ground.phase }, { on := 1, ground := Go.Ground.phase }, { on := 2, ground := Go.Ground.phase }, { on := 3, ground := Go.Ground.phase }, { on := 4, ground := Go.Ground.phase }, { on := 5, ground := Go.Ground.phase }, { on := 6, ground := Go.Ground.phase }, { on := 7, ground := Go.Ground.phase }, { on := 8, ground := Go.Ground.phase }, { on := 9, ground := Go.Ground.phase }, { on := 10, ground := Go.Ground.phase }], guard := none }) (v := ?v11_9) rfl (by kernel_rfl) (by kernel_rfl) (by kernel_rfl) (fun _ _ _ h => h) (Or.inl ⟨by rfl, ?h11_9⟩) hHeld ?r11_9
        case h11_9 =>
          intro wS hSw
          (try dsimp only at hSw)
          go_simp
          try with_reducible rfl
        case r11_9 =>
        simp only [Act.put, List.setIfInBounds_toArray, List.set_cons_zero, List.set_cons_succ]
        refine wpAnyH_ready (rs := [12]) (by kernel_rfl) (by simp) ?_
        refine AllReadyH.cons (o := { dst := none, op := Go.Op.store 25 (Go.Operand.tmp 33) (Go.Operand.tmp 32), type := 0, pos := "l06_center.go:54", after := #[{ on := 11, ground := Go.Ground.data }, { on := 10, ground := Go.Ground.data }, { on := 10, ground := Go.Ground.chain }, { on := 0, ground := Go.Ground.phase }, { on := 1, ground := Go.Ground.phase }, { on := 2, ground := Go.Ground.phase }, { on := 3, ground := Go.Ground.phase }, { on := 4, ground := Go.Ground.phase }, { on := 5, ground := Go.Ground.phase }, { on := 6, ground := Go.Ground.phase }, { on := 7, ground := Go.Ground.phase }, { on := 8, ground := Go.Ground.phase }, { on := 9, ground := Go.Ground.phase }, { on := 10, ground := Go.Ground.phase }], guard := none }) rfl (fun K hK => ?_) AllReadyH.nil
        have y1 := hX5.at 1 _ rfl
        have f1 := hX5.soft 1
        have l5 := hX5.lt
        go_simp
        refine hK.out _ _ (hHeld.setCell (by simp) _) (fun hHeld => ?_)
        clear hK K
        try simp only [Act.put, List.setIfInBounds_toArray, List.set_cons_zero, List.set_cons_succ]
        refine wpAnyH_done (by kernel_rfl) ?_ _
        refine NoPanic.normal ?_
        have HX9 : Hid (Box w.heap.size #[.int .i64 0, .slice (some ⟨g5, 0, none⟩) (k + 1) cp5] 37 (w5.setCell ⟨w1.heap.size, 1, none⟩ (.slice (some ⟨g5, 0, none⟩) (k + 1) cp5)) w1.heap.size) := hX5.set 1 _
        have HO9 := hide (ownsRow_setCell_below (a := ⟨w1.heap.size, 1, none⟩) hO5 (by simp) (.slice (some ⟨g5, 0, none⟩) (k + 1) cp5))
        have HB9 := hide hHeld
        clear hHeld hO5 hg5 hb5 hX5 hO3 hbw hOD hXD hHD
        go_wp2_with fail
        go_roundw
        case rel => exact ⟨k + 1, _, by omega, by go_num, unhide HX9, by rw [unhide HTK]; exact unhide HO9, unhide HB9⟩
        case measure => simp [intOf]; omega
      case o8_8 =>
        go_simp
        go_at_call 65
        refine (unhide LN _ hHeld).mono ?_
        rintro e w3 ⟨rfl, hbw⟩
        try go_wp2_with fail
        refine hK.out _ _ (hHeld.trans (hbw.mono hHeld.size)) (fun hHeld => ?_)
        clear hK K
        try simp only [Act.put, List.setIfInBounds_toArray, List.set_cons_zero, List.set_cons_succ]
        refine wpAnyH_ready (rs := [1, 9]) (by kernel_rfl) (by simp) ?_
        refine AllReadyH.cons (o := { dst := some 23, op := Go.Op.load 25 (Go.Operand.tmp 22), type := 25, pos := "l06_center.go:54", after := #[{ on := 0, ground := Go.Ground.data }], guard := none }) rfl (fun K hK => ?o1_10) (AllReadyH.cons (o := { dst := some 31, op := Go.Op.buildSlice 25 1 #[(0, Go.Operand.tmp 30)], type := 25, pos := "l06_center.go:54", after := #[{ on := 8, ground := Go.Ground.data }], guard := none }) rfl (fun K hK => ?o9_10) (AllReadyH.nil))
        case o1_10 =>
          have y1 : (w3).cell? ⟨w1.heap.size, 1, none⟩ = some r := (hXD.keep hbw).at 1 _ rfl
          go_simp
          refine hK.out _ _ hHeld (fun hHeld => ?_)
          clear hK K
          try simp only [Act.put, List.setIfInBounds_toArray, List.set_cons_zero, List.set_cons_succ]
          refine wpAnyH_ready (rs := [9]) (by kernel_rfl) (by simp) ?_
          refine AllReadyH.cons (o := { dst := some 31, op := Go.Op.buildSlice 25 1 #[(0, Go.Operand.tmp 30)], type := 25, pos := "l06_center.go:54", after := #[{ on := 8, ground := Go.Ground.data }], guard := none }) rfl (fun K hK => ?_) AllReadyH.nil
          go_simp
          refine hK.out _ _ (hHeld.alloc hHeld.size _) (fun hHeld => ?_)
          clear hK K
          try simp only [Act.put, List.setIfInBounds_toArray, List.set_cons_zero, List.set_cons_succ]
          refine wpAnyH_ready (rs := [10]) (by kernel_rfl) (by simp) ?_
          refine AllReadyH.cons (o := { dst := some 32, op := Go.Op.call { callee := Go.Callee.builtin Go.Builtin.append, args := #[Go.Operand.tmp 23, Go.Operand.tmp 31], argTypes := #[25, 25] }, type := 25, pos := "l06_center.go:54", after := #[{ on := 1, ground := Go.Ground.data }, { on := 9, ground := Go.Ground.data }, { on := 8, ground := Go.Ground.chain }], guard := none }) rfl (fun K hK => ?_) AllReadyH.nil
          have hO3 := own_below hOD hbw
          have hz3 := hbw.size
          refine step_append_int hO3 (nr : Int) rfl _ _ rfl rfl rfl (by omega) (by have := hHD.size; have := hXD.lt; omega) ?_
          rintro g5 cp5 w5 hO5 hg5 hb5 hl5 hz5
          have hX5 : Box w.heap.size #[.int .i64 0, r] 37 w5 w1.heap.size := ⟨hXD.1, (hg5.block w1.heap.size (by have := hXD.lt; omega) (fun e => by have := (hO3.lt _ e.symm).1; omega)).trans (hXD.keep hbw).2⟩
          refine hK.out _ _ ((hHD.trans (hbw.mono hHD.size)).trans (hb5.mono (by omega))) (fun hHeld => ?_)
          clear hK K
          try simp only [Act.put, List.setIfInBounds_toArray, List.set_cons_zero, List.set_cons_succ]
          refine wpAnyH_take (i := 11) (oi := { dst := some 33, op := Go.Op.fieldAddr 37 (Go.Operand.tmp 6) 1, type := 0, pos := "l06_center.go:54", after := #[{ on := 0, ground := Go.Ground.phase }, { on := 1, ground := Go.Ground.phase }, { on := 2, ground := Go.Ground.phase }, { on := 3, ground := Go.Ground.phase }, { on := 4, ground := Go.Ground.phase }, { on := 5, ground := Go.Ground.phase }, { on := 6, ground := Go.Ground.phase }, { on := 7, ground := Go.Ground.phase }, { on := 8, ground := Go.Ground.phase }, { on := 9, ground := Go.Ground.phase }, { on := 10, ground := Go.Ground.phase }], guard := none }) (v := ?v11_11) rfl (by kernel_rfl) (by kernel_rfl) (by kernel_rfl) (fun _ _ _ h => h) (Or.inl ⟨by rfl, ?h11_11⟩) hHeld ?r11_11
          case h11_11 =>
            intro wS hSw
            (try dsimp only at hSw)
            go_simp
            try with_reducible rfl
          case r11_11 =>
          simp only [Act.put, List.setIfInBounds_toArray, List.set_cons_zero, List.set_cons_succ]
          refine wpAnyH_ready (rs := [12]) (by kernel_rfl) (by simp) ?_
          refine AllReadyH.cons (o := { dst := none, op := Go.Op.store 25 (Go.Operand.tmp 33) (Go.Operand.tmp 32), type := 0, pos := "l06_center.go:54", after := #[{ on := 11, ground := Go.Ground.data }, { on := 10, ground := Go.Ground.data }, { on := 10, ground := Go.Ground.chain }, { on := 0, ground := Go.Ground.phase }, { on := 1, ground := Go.Ground.phase }, { on := 2, ground := Go.Ground.phase }, { on := 3, ground := Go.Ground.phase }, { on := 4, ground := Go.Ground.phase }, { on := 5, ground := Go.Ground.phase }, { on := 6, ground := Go.Ground.phase }, { on := 7, ground := Go.Ground.phase }, { on := 8, ground := Go.Ground.phase }, { on := 9, ground := Go.Ground.phase }, { on := 10, ground := Go.Ground.phase }], guard := none }) rfl (fun K hK => ?_) AllReadyH.nil
          have y1 := hX5.at 1 _ rfl
          have f1 := hX5.soft 1
          have l5 := hX5.lt
          go_simp
          refine hK.out _ _ (hHeld.setCell (by simp) _) (fun hHeld => ?_)
          clear hK K
          try simp only [Act.put, List.setIfInBounds_toArray, List.set_cons_zero, List.set_cons_succ]
          refine wpAnyH_done (by kernel_rfl) ?_ _
          refine NoPanic.normal ?_
          have HX9 : Hid (Box w.heap.size #[.int .i64 0, .slice (some ⟨g5, 0, none⟩) (k + 1) cp5] 37 (w5.setCell ⟨w1.heap.size, 1, none⟩ (.slice (some ⟨g5, 0, none⟩) (k + 1) cp5)) w1.heap.size) := hX5.set 1 _
          have HO9 := hide (ownsRow_setCell_below (a := ⟨w1.heap.size, 1, none⟩) hO5 (by simp) (.slice (some ⟨g5, 0, none⟩) (k + 1) cp5))
          have HB9 := hide hHeld
          clear hHeld hO5 hg5 hb5 hX5 hO3 hbw hOD hXD hHD
          go_wp2_with fail
          go_roundw
          case rel => exact ⟨k + 1, _, by omega, by go_num, unhide HX9, by rw [unhide HTK]; exact unhide HO9, unhide HB9⟩
          case measure => simp [intOf]; omega
        case o9_10 =>
          go_simp
          refine hK.out _ _ (hHeld.alloc hHeld.size _) (fun hHeld => ?_)
          clear hK K
          try simp only [Act.put, List.setIfInBounds_toArray, List.set_cons_zero, List.set_cons_succ]
          refine wpAnyH_ready (rs := [1]) (by kernel_rfl) (by simp) ?_
          refine AllReadyH.cons (o := { dst := some 23, op := Go.Op.load 25 (Go.Operand.tmp 22), type := 25, pos := "l06_center.go:54", after := #[{ on := 0, ground := Go.Ground.data }], guard := none }) rfl (fun K hK => ?_) AllReadyH.nil
          have y1 : (w3.alloc (.cells #[.int .i64 (nr : Int)] 2)).cell? ⟨w1.heap.size, 1, none⟩ = some r := ((hXD.keep hbw).grow _).at 1 _ rfl
          go_simp
          refine hK.out _ _ hHeld (fun hHeld => ?_)
          clear hK K
          try simp only [Act.put, List.setIfInBounds_toArray, List.set_cons_zero, List.set_cons_succ]
          refine wpAnyH_ready (rs := [10]) (by kernel_rfl) (by simp) ?_
          refine AllReadyH.cons (o := { dst := some 32, op := Go.Op.call { callee := Go.Callee.builtin Go.Builtin.append, args := #[Go.Operand.tmp 23, Go.Operand.tmp 31], argTypes := #[25, 25] }, type := 25, pos := "l06_center.go:54", after := #[{ on := 1, ground := Go.Ground.data }, { on := 9, ground := Go.Ground.data }, { on := 8, ground := Go.Ground.chain }], guard := none }) rfl (fun K hK => ?_) AllReadyH.nil
          have hO3 := own_below hOD hbw
          have hz3 := hbw.size
          refine step_append_int hO3 (nr : Int) rfl _ _ rfl rfl rfl (by omega) (by have := hHD.size; have := hXD.lt; omega) ?_
          rintro g5 cp5 w5 hO5 hg5 hb5 hl5 hz5
          have hX5 : Box w.heap.size #[.int .i64 0, r] 37 w5 w1.heap.size := ⟨hXD.1, (hg5.block w1.heap.size (by have := hXD.lt; omega) (fun e => by have := (hO3.lt _ e.symm).1; omega)).trans (hXD.keep hbw).2⟩
          refine hK.out _ _ ((hHD.trans (hbw.mono hHD.size)).trans (hb5.mono (by omega))) (fun hHeld => ?_)
          clear hK K
          try simp only [Act.put, List.setIfInBounds_toArray, List.set_cons_zero, List.set_cons_succ]
          refine wpAnyH_take (i := 11) (oi := { dst := some 33, op := Go.Op.fieldAddr 37 (Go.Operand.tmp 6) 1, type := 0, pos := "l06_center.go:54", after := #[{ on := 0, ground := Go.Ground.phase }, { on := 1, ground := Go.Ground.phase }, { on := 2, ground := Go.Ground.phase }, { on := 3, ground := Go.Ground.phase }, { on := 4, ground := Go.Ground.phase }, { on := 5, ground := Go.Ground.phase }, { on := 6, ground := Go.Ground.phase }, { on := 7, ground := Go.Ground.phase }, { on := 8, ground := Go.Ground.phase }, { on := 9, ground := Go.Ground.phase }, { on := 10, ground := Go.Ground.phase }], guard := none }) (v := ?v11_12) rfl (by kernel_rfl) (by kernel_rfl) (by kernel_rfl) (fun _ _ _ h => h) (Or.inl ⟨by rfl, ?h11_12⟩) hHeld ?r11_12
          case h11_12 =>
            intro wS hSw
            (try dsimp only at hSw)
            go_simp
            try with_reducible rfl
          case r11_12 =>
          simp only [Act.put, List.setIfInBounds_toArray, List.set_cons_zero, List.set_cons_succ]
          refine wpAnyH_ready (rs := [12]) (by kernel_rfl) (by simp) ?_
          refine AllReadyH.cons (o := { dst := none, op := Go.Op.store 25 (Go.Operand.tmp 33) (Go.Operand.tmp 32), type := 0, pos := "l06_center.go:54", after := #[{ on := 11, ground := Go.Ground.data }, { on := 10, ground := Go.Ground.data }, { on := 10, ground := Go.Ground.chain }, { on := 0, ground := Go.Ground.phase }, { on := 1, ground := Go.Ground.phase }, { on := 2, ground := Go.Ground.phase }, { on := 3, ground := Go.Ground.phase }, { on := 4, ground := Go.Ground.phase }, { on := 5, ground := Go.Ground.phase }, { on := 6, ground := Go.Ground.phase }, { on := 7, ground := Go.Ground.phase }, { on := 8, ground := Go.Ground.phase }, { on := 9, ground := Go.Ground.phase }, { on := 10, ground := Go.Ground.phase }], guard := none }) rfl (fun K hK => ?_) AllReadyH.nil
          have y1 := hX5.at 1 _ rfl
          have f1 := hX5.soft 1
          have l5 := hX5.lt
          go_simp
          refine hK.out _ _ (hHeld.setCell (by simp) _) (fun hHeld => ?_)
          clear hK K
          try simp only [Act.put, List.setIfInBounds_toArray, List.set_cons_zero, List.set_cons_succ]
          refine wpAnyH_done (by kernel_rfl) ?_ _
          refine NoPanic.normal ?_
          have HX9 : Hid (Box w.heap.size #[.int .i64 0, .slice (some ⟨g5, 0, none⟩) (k + 1) cp5] 37 (w5.setCell ⟨w1.heap.size, 1, none⟩ (.slice (some ⟨g5, 0, none⟩) (k + 1) cp5)) w1.heap.size) := hX5.set 1 _
          have HO9 := hide (ownsRow_setCell_below (a := ⟨w1.heap.size, 1, none⟩) hO5 (by simp) (.slice (some ⟨g5, 0, none⟩) (k + 1) cp5))
          have HB9 := hide hHeld
          clear hHeld hO5 hg5 hb5 hX5 hO3 hbw hOD hXD hHD
          go_wp2_with fail
          go_roundw
          case rel => exact ⟨k + 1, _, by omega, by go_num, unhide HX9, by rw [unhide HTK]; exact unhide HO9, unhide HB9⟩
          case measure => simp [intOf]; omega
    · obtain rfl : k = xs.length := by omega
      have e1 : (placesL cs xs).take xs.length = placesL cs xs := by rw [← places_len cs xs, List.take_length]
      rw [e1] at hown
      have hO := Lay.ownInts (zs := placesL cs xs) (base := w1.heap.size + 1) (T := 2) (places_wf (unhide HFC) (unhide HXV)) (by rw [places_len]; omega) (by rw [places_len]; exact hown)
      obtain ⟨ao9, cp9, rfl⟩ := open_sl hO.reads
      have bR := (unhide HR).keep hB
      have z0 : wr.cell? ⟨w.heap.size, 0, none⟩ = some (.int .i64 0) := bR.at 0 _ rfl
      have z1 : wr.cell? ⟨w.heap.size, 1, none⟩ = some (.slice none 0 0) := bR.at 1 _ rfl
      have y0 : wr.cell? ⟨w1.heap.size, 0, none⟩ = some (.int .i64 0) := hX.at 0 _ rfl
      have y1 : wr.cell? ⟨w1.heap.size, 1, none⟩ = some (.slice ao9 (placesL cs xs).length cp9) := hX.at 1 _ rfl
      have f0 := bR.soft 0
      have f1 := bR.soft 1
      have l0 := bR.lt
      have HB9 := hide ((unhide HB).trans (hB.mono (unhide HB).size))
      have HO9 := hide hO
      clear hown hB hO bR e1 hX
      generalize (placesL cs xs).length = n9 at *
      go_wp2_with fail
      refine bodyPost_ret (v := .agg #[.int .i64 0, .slice ao9 n9 cp9]) (by simp [results, Try.results29, go_sem, z0, z1]) rfl ?_
      have hE : Ext (fun c => c = w.heap.size) wr ((wr.setCell ⟨w.heap.size, 0, none⟩ (.int .i64 0)).setCell ⟨w.heap.size, 1, none⟩ (.slice ao9 n9 cp9)) := ((Ext.refl (fun c => c = w.heap.size) _).setCell ⟨w.heap.size, 0, none⟩ _ rfl).setCell ⟨w.heap.size, 1, none⟩ _ rfl
      exact ⟨[.int .i64 0, .slice ao9 n9 cp9], rfl, own_intsR6 (by decide) (((unhide HO9).ext hE (fun c h1 _ h3 => by omega)).mono (by omega) (by simp)), ((unhide HB9).setCell (by simp) _).setCell (by simp) _⟩

set_option maxRecDepth 10000 in
theorem specAssign_bad (v : Value) (cs : List DCenter) (vx : Value) (xs : List DItem) (w : World) (hcs : (Lay.sl Lay.tCenter).Reads w [v] cs) (h : (Lay.sl Lay.tItem).Reads w [vx] xs) (hf : askFault cs xs ≠ 0) :
    Calls Try.prog 29 #[v, vx] w fun e w' => ∃ cs', e = .returned (.agg cs'.toArray) ∧ Lay.tIntsResult.OwnIn w' cs' ⟨askFault cs xs, []⟩ w.heap.size w'.heap.size ∧ Below w.heap.size w w' := by
  have HB0 : Below w.heap.size w (w.alloc (.cells #[.int .i64 0, .slice none 0 0] 37)) := (Below.refl _ _).alloc (Nat.le_refl _) _
  have bR : Box w.heap.size #[.int .i64 0, .slice none 0 0] 37 (w.alloc (.cells #[.int .i64 0, .slice none 0 0] 37)) w.heap.size := newBox (Nat.le_refl _)
  have hc1 := hcs.later HB0
  have hx1 := h.later HB0
  obtain ⟨ao, cap, rfl⟩ := open_sl hcs
  obtain ⟨ao2, cap2, rfl⟩ := open_sl h
  have hd : (askFault cs xs != 0) = true := by simpa using hf
  clear hcs h hf
  go_enter Try.func29, Try.ntmps29
  go_wp2_with fail
  generalize w.alloc (.cells #[.int .i64 0, .slice none 0 0] 37) = W0 at *
  refine (specAsk6 _ cs _ xs W0 hc1 hx1).mono ?_
  rintro e w1 ⟨rfl, hb⟩
  replace bR := bR.keep hb
  replace HB0 := HB0.trans (hb.mono HB0.size)
  have z0 : w1.cell? ⟨w.heap.size, 0, none⟩ = some (.int .i64 0) := bR.at 0 _ rfl
  have z1 : w1.cell? ⟨w.heap.size, 1, none⟩ = some (.slice none 0 0) := bR.at 1 _ rfl
  have f0 := bR.soft 0
  have f1 := bR.soft 1
  have l0 := bR.lt
  have HB := hide HB0
  clear hb HB0 bR hc1 hx1
  go_wp2_with fail
  refine bodyPost_ret (v := .agg #[.int .i64 (askFault cs xs), .slice none 0 0]) (by simp [results, Try.results29, go_sem, z0, z1]) rfl ?_
  exact ⟨[.int .i64 (askFault cs xs), .slice none 0 0], rfl, own_codeInts6 (askFault_wf cs xs), ((unhide HB).setCell (by simp) _).setCell (by simp) _⟩

/-- AssignAll of the program. -/
theorem specAssign (v : Value) (cs : List DCenter) (vx : Value) (xs : List DItem) (w : World) (hcs : (Lay.sl Lay.tCenter).Reads w [v] cs) (h : (Lay.sl Lay.tItem).Reads w [vx] xs) :
    Calls Try.prog 29 #[v, vx] w fun e w' => ∃ cs', e = .returned (.agg cs'.toArray) ∧ Lay.tIntsResult.OwnIn w' cs' (assignR cs xs) w.heap.size w'.heap.size ∧ Below w.heap.size w w' := by
  by_cases hf : askFault cs xs = 0
  · rw [show assignR cs xs = ⟨0, placesL cs xs⟩ from if_pos hf]
    obtain ⟨ao, cap, rfl⟩ := open_sl h
    exact specAssign_ok v cs ao cap xs w hcs h hf
  · rw [show assignR cs xs = ⟨askFault cs xs, []⟩ from if_neg hf]
    exact specAssign_bad v cs vx xs w hcs h hf

end Go.Proofs.Ytjofcmdlcoganaa
