/-
  Texts of this proof in one: SpecJoinC, Chance, DrawB10, DrawCut10, ChainsPlain, Big, Digits, ChainText, SpecCText.
  Their conditions stand in their theorems.
-/
import Derived.Test.YtceoaphcjnfphaaDoorFq01
import Derived.Deep.RegionHeld3
import Derived.Deep.CutRange
import Derived.WalkKit
import Derived.OpenShut
import Derived.Test.YtceoaphcjnfphaaDoorChecked
import Derived.Laws.BytesArg
import Derived.Laws.Concat
import Derived.Deep.RegionWith

namespace Go.Proofs.YtceoaphcjnfphaaDoor
open Go.RowKit

set_option maxRecDepth 10000 in
set_option maxHeartbeats 2000000 in
theorem specJoinChainG (cs : List Value) (x : DChain) (id : Int) (w : World) (h : Lay.tChain.Reads w cs x) :
    Calls Tryd.prog 55 #[.agg cs.toArray, .int .i64 id] w fun e w' => ∃ v, e = .returned (.agg #[.int .i64 (joinR x id).code, .int .i64 (joinR x id).chain.epoch, v]) ∧ w'.ownsRow w.heap.size 2 1 v (joinR x id).chain.ids.length ((joinR x id).chain.ids.map (Value.int .i64)) ∧ Below w.heap.size w w' := by
  obtain ⟨a, d, rfl, R⟩ := open_Chain h
  have nb : Below w.heap.size w ((w.alloc (.cells #[.int .i64 x.epoch, .slice a x.ids.length d] 26)).alloc (.cells #[.int .i64 0, .int .i64 0, .slice none 0 0] 30)) := ((Below.refl _ _).alloc (Nat.le_refl _) _).alloc (by simp) _
  have hX : ChainAt ((w.alloc (.cells #[.int .i64 x.epoch, .slice a x.ids.length d] 26)).alloc (.cells #[.int .i64 0, .int .i64 0, .slice none 0 0] 30)) w.heap.size (.slice a x.ids.length d) x := (newBox (Nat.zero_le _)).grow _
  have bR : Box 0 #[.int .i64 0, .int .i64 0, .slice none 0 0] 30 ((w.alloc (.cells #[.int .i64 x.epoch, .slice a x.ids.length d] 26)).alloc (.cells #[.int .i64 0, .int .i64 0, .slice none 0 0] 30)) (w.heap.size + 1) := newBoxAt (Nat.zero_le _) (by simp)
  have HF := hide (l10FaultC w.heap.size a d x _ hX (R.later nb))
  have HA := hide (l10AtC w.heap.size a d x id _ hX (R.later nb))
  have HR1 := hide R
  have HWF := hide (int_wf R)
  have x0 := Box.at hX 0 _ rfl
  have x1 := Box.at hX 1 _ rfl
  have z0 := Box.at bR 0 _ rfl
  have z1 := Box.at bR 1 _ rfl
  have z2 := Box.at bR 2 _ rfl
  simp only [List.getElem_toArray, List.getElem_cons_zero, List.getElem_cons_succ] at x0 x1 z0 z1 z2
  have ff := Box.soft bR
  have l0 := Box.lt bR
  have xl := Box.lt hX
  have HB := hide nb
  have HX := hide hX
  have HR := hide bR
  have HXX := HX
  clear HXX h R nb hX bR
  go_enter Tryd.func55, Tryd.ntmps55
  go_wp2_with fail
  generalize (w.alloc (.cells #[.int .i64 x.epoch, .slice a x.ids.length d] 26)).alloc (.cells #[.int .i64 0, .int .i64 0, .slice none 0 0] 30) = W at *
  refine (unhide HF).mono ?_
  rintro e w1 ⟨rfl, h1⟩
  subst w1
  clear HF
  by_cases hc : chainFault x = 0
  · have ok := chainFault_zero hc
    have hlen := ok.len
    have hep := ok.epoch
    have HV0 : Hid (joinR x id = _) := (if_pos hc)
    rw [hc]
    clear hc ok
    go_wp2_with fail
    refine (node10C id W).mono ?_
    rintro e w1 ⟨rfl, h1⟩
    subst w1
    cases d1 : (decide (1 ≤ id) && decide (id ≤ 5))
    · have HV : Hid (joinR x id = badChain 3) := (unhide HV0).trans (if_neg (by simpa using d1))
      clear HV0 d1 HA
      have HB2 := hide (below_setAll (unhide HB) (w.heap.size + 1) 0 [.int .i64 (3), .int .i64 0, .slice none 0 0] (by omega))
      clear HB
      go_wp2_with fail
      refine bodyPost_ret (v := .agg #[.int .i64 (3), .int .i64 0, .slice none 0 0]) (by simp [results, Tryd.results55, go_sem, z0, z1, z2]) rfl ?_
      rw [unhide HV]
      exact ⟨_, rfl, World.ownsRow_nil _ _ _ _, unhide HB2⟩
    · have hid : 1 ≤ id ∧ id ≤ 5 := by simpa using d1
      have HV1 := hide ((unhide HV0).trans (if_pos hid))
      clear HV0 d1
      go_wp2_with fail
      refine (unhide HA).mono ?_
      rintro e w1 ⟨rfl, h1⟩
      subst w1
      clear HA
      by_cases h0 : 0 ≤ placeC x.ids id
      · have HV : Hid (joinR x id = badChain 6) := (unhide HV1).trans (if_pos h0)
        have hd0 : decide (0 ≤ placeC x.ids id) = true := by simpa using h0
        clear HV1
        generalize placeC x.ids id = p at *
        have HB2 := hide (below_setAll (unhide HB) (w.heap.size + 1) 0 [.int .i64 (6), .int .i64 0, .slice none 0 0] (by omega))
        clear HB
        go_wp2_with fail
        refine bodyPost_ret (v := .agg #[.int .i64 (6), .int .i64 0, .slice none 0 0]) (by simp [results, Tryd.results55, go_sem, z0, z1, z2]) rfl ?_
        rw [unhide HV]
        exact ⟨_, rfl, World.ownsRow_nil _ _ _ _, unhide HB2⟩
      · have hd0 : decide (0 ≤ placeC x.ids id) = false := by simpa using h0
        have HV2 := hide ((unhide HV1).trans (if_neg h0))
        clear HV1
        generalize placeC x.ids id = p at *
        by_cases h2 : 999 ≤ x.epoch
        · have HV : Hid (joinR x id = badChain 2) := (unhide HV2).trans (if_pos h2)
          have hd2 : decide ((999 : Int) ≤ x.epoch) = true := by simpa using h2
          clear HV2
          have HB2 := hide (below_setAll (unhide HB) (w.heap.size + 1) 0 [.int .i64 (2), .int .i64 0, .slice none 0 0] (by omega))
          clear HB
          go_wp2_with fail
          refine bodyPost_ret (v := .agg #[.int .i64 (2), .int .i64 0, .slice none 0 0]) (by simp [results, Tryd.results55, go_sem, z0, z1, z2]) rfl ?_
          rw [unhide HV]
          exact ⟨_, rfl, World.ownsRow_nil _ _ _ _, unhide HB2⟩
        · have HV : Hid (joinR x id = ⟨0, ⟨x.epoch + 1, x.ids ++ [id]⟩⟩) := (unhide HV2).trans (if_neg h2)
          have hd2 : decide ((999 : Int) ≤ x.epoch) = false := by simpa using h2
          have HRI : Hid (∀ w', Below (w.heap.size + 1) W w' → (Lay.sl Lay.int).Reads w' [.slice a x.ids.length d] x.ids) := fun w' hw => (unhide HR1).later ((unhide HB).trans (hw.mono (by omega)))
          have HWJ : Hid (∀ z ∈ x.ids ++ [id], (Lit.int .i64 z).wf = true) := fun z hz => by
            rcases List.mem_append.1 hz with hz | hz
            · exact unhide HWF z hz
            · rw [List.mem_singleton.1 hz]; exact wf_of_bd (by omega)
          clear HV2 z0 z1 z2 ff l0
          have hRD := Box.drew (unhide HR)
          have hzD : W.heap.size ≤ W.drew.heap.size := Nat.le_refl _
          have hlW := Box.lt (unhide HR)
          go_wp2_with fail
          refine wp_region_noPanic ?_
          refine wp_region_held_drew (S := fun w' => Below (w.heap.size + 1) W w') (by kernel_rfl) (Below.refl _ _).drew (fun hHeld => ?_)
          generalize W.drew = wD at hHeld hRD hzD ⊢
          refine wpAnyH_take (i := 0) (oi := { dst := some 23, op := Go.Op.fieldAddr 26 (Go.Operand.tmp 2) 0, type := 0, pos := "l10_chain.go:117", after := #[], guard := none }) (v := ?vj0_1) rfl (by kernel_rfl) (by kernel_rfl) (by kernel_rfl) (fun _ _ _ h => h) (Or.inl ⟨by rfl, ?hj0_1⟩) hHeld ?rj0_1
          case hj0_1 =>
            intro wS hSw
            (try dsimp only at hSw)
            go_simp
            try with_reducible rfl
          case rj0_1 =>
          simp only [Act.put, List.setIfInBounds_toArray, List.set_cons_zero, List.set_cons_succ]
          refine wpAnyH_take (i := 1) (oi := { dst := some 24, op := Go.Op.load 2 (Go.Operand.tmp 23), type := 2, pos := "l10_chain.go:117", after := #[{ on := 0, ground := Go.Ground.data }], guard := none }) (v := ?vj1_2) rfl (by kernel_rfl) (by kernel_rfl) (by kernel_rfl) (fun _ _ _ h => h) (Or.inl ⟨by rfl, ?hj1_2⟩) hHeld ?rj1_2
          case hj1_2 =>
            intro wS hSw
            have e1 : wS.cell? ⟨w.heap.size, 0, none⟩ = some (.int .i64 x.epoch) := (hSw.cell (p := ⟨w.heap.size, 0, none⟩) (by show w.heap.size < w.heap.size + 1; omega)).trans x0
            clear hSw
            (try dsimp only at hSw)
            go_simp
            try with_reducible rfl
          case rj1_2 =>
          simp only [Act.put, List.setIfInBounds_toArray, List.set_cons_zero, List.set_cons_succ]
          refine wpAnyH_take (i := 2) (oi := { dst := some 25, op := Go.Op.binOp Go.BinOp.add 2 (Go.Operand.tmp 24) (Go.Operand.const (Go.Value.int Go.IntKind.i64 1)) 2, type := 2, pos := "l10_chain.go:117", after := #[{ on := 1, ground := Go.Ground.data }], guard := none }) (v := ?vj2_3) rfl (by kernel_rfl) (by kernel_rfl) (by kernel_rfl) (fun _ _ _ h => h) (Or.inl ⟨by rfl, ?hj2_3⟩) hHeld ?rj2_3
          case hj2_3 =>
            intro wS hSw
            clear hSw
            have hwr : IntKind.i64.wrap (x.epoch + 1) = x.epoch + 1 := by rw [IntKind.wrap_i64]; omega
            (try dsimp only at hSw)
            go_simp
            try with_reducible rfl
          case rj2_3 =>
          simp only [Act.put, List.setIfInBounds_toArray, List.set_cons_zero, List.set_cons_succ]
          refine wpAnyH_take (i := 3) (oi := { dst := some 26, op := Go.Op.fieldAddr 26 (Go.Operand.tmp 2) 1, type := 0, pos := "l10_chain.go:117", after := #[], guard := none }) (v := ?vj3_4) rfl (by kernel_rfl) (by kernel_rfl) (by kernel_rfl) (fun _ _ _ h => h) (Or.inl ⟨by rfl, ?hj3_4⟩) hHeld ?rj3_4
          case hj3_4 =>
            intro wS hSw
            (try dsimp only at hSw)
            go_simp
            try with_reducible rfl
          case rj3_4 =>
          simp only [Act.put, List.setIfInBounds_toArray, List.set_cons_zero, List.set_cons_succ]
          refine wpAnyH_take (i := 4) (oi := { dst := some 27, op := Go.Op.load 24 (Go.Operand.tmp 26), type := 24, pos := "l10_chain.go:117", after := #[{ on := 3, ground := Go.Ground.data }], guard := none }) (v := ?vj4_5) rfl (by kernel_rfl) (by kernel_rfl) (by kernel_rfl) (fun _ _ _ h => h) (Or.inl ⟨by rfl, ?hj4_5⟩) hHeld ?rj4_5
          case hj4_5 =>
            intro wS hSw
            have e1 : wS.cell? ⟨w.heap.size, 1, none⟩ = some (.slice a x.ids.length d) := (hSw.cell (p := ⟨w.heap.size, 1, none⟩) (by show w.heap.size < w.heap.size + 1; omega)).trans x1
            clear hSw
            (try dsimp only at hSw)
            go_simp
            try with_reducible rfl
          case rj4_5 =>
          simp only [Act.put, List.setIfInBounds_toArray, List.set_cons_zero, List.set_cons_succ]
          refine wpAnyH_take (i := 6) (oi := { dst := some 29, op := Go.Op.move (Go.Operand.tmp 1), type := 2, pos := "l10_chain.go:117", after := #[], guard := none }) (v := ?vj6_6) rfl (by kernel_rfl) (by kernel_rfl) (by kernel_rfl) (fun _ _ _ h => h) (Or.inl ⟨by rfl, ?hj6_6⟩) hHeld ?rj6_6
          case hj6_6 =>
            intro wS hSw
            (try dsimp only at hSw)
            go_simp
            try with_reducible rfl
          case rj6_6 =>
          simp only [Act.put, List.setIfInBounds_toArray, List.set_cons_zero, List.set_cons_succ]
          refine wpAnyH_ready (rs := [5, 7]) (by kernel_rfl) (by simp) ?_
          refine AllReadyH.cons (o := { dst := some 28, op := Go.Op.call { callee := Go.Callee.value (Go.Operand.func 59), args := #[Go.Operand.tmp 27], argTypes := #[24] }, type := 24, pos := "l10_chain.go:117", after := #[{ on := 4, ground := Go.Ground.data }], guard := none }) rfl (fun K hK => ?oj5_7) (AllReadyH.cons (o := { dst := some 30, op := Go.Op.buildSlice 24 1 #[(0, Go.Operand.tmp 29)], type := 24, pos := "l10_chain.go:117", after := #[{ on := 6, ground := Go.Ground.data }], guard := none }) rfl (fun K hK => ?oj7_7) (AllReadyH.nil))
          case oj5_7 =>
            go_simp
            go_at_call 59
            refine (l1Ints _ x.ids _ (Lay.ints_reads (unhide HRI _ hHeld)) (by omega)).mono ?_
            rintro e w4 ⟨v4, rfl, O4, hb4⟩
            have hS4 := hHeld.trans (hb4.mono (by omega))
            have hz4 := hb4.size
            have hR4 := hRD.keep hb4
            replace O4 := own_mono (b' := W.heap.size) (by omega) O4
            try go_wp2_with fail
            refine hK.out _ _ hS4 (fun hHeld => ?_)
            clear hK K
            try simp only [Act.put, List.setIfInBounds_toArray, List.set_cons_zero, List.set_cons_succ]
            refine wpAnyH_ready (rs := [7]) (by kernel_rfl) (by simp) ?_
            refine AllReadyH.cons (o := { dst := some 30, op := Go.Op.buildSlice 24 1 #[(0, Go.Operand.tmp 29)], type := 24, pos := "l10_chain.go:117", after := #[{ on := 6, ground := Go.Ground.data }], guard := none }) rfl (fun K hK => ?_) AllReadyH.nil
            have b7 : Box 0 #[.int .i64 id] 2 ((w4).alloc (.cells #[.int .i64 id] 2)) (w4).heap.size := newBox (Nat.zero_le _)
            have nb7 : Below (w4).heap.size (w4) ((w4).alloc (.cells #[.int .i64 id] 2)) := (Below.refl _ _).alloc (Nat.le_refl _) _
            replace O4 := own_below O4 nb7
            replace hR4 := hR4.keep nb7
            have hS7 := hS4.trans (nb7.mono (by omega))
            go_simp
            try go_wp2_with fail
            refine hK.out _ _ hS7 (fun hHeld => ?_)
            clear hK K
            try simp only [Act.put, List.setIfInBounds_toArray, List.set_cons_zero, List.set_cons_succ]
            refine wpAnyH_ready (rs := [8]) (by kernel_rfl) (by simp) ?_
            refine AllReadyH.cons (o := { dst := some 31, op := Go.Op.call { callee := Go.Callee.builtin Go.Builtin.append, args := #[Go.Operand.tmp 28, Go.Operand.tmp 30], argTypes := #[24, 24] }, type := 24, pos := "l10_chain.go:117", after := #[{ on := 5, ground := Go.Ground.data }, { on := 7, ground := Go.Ground.data }, { on := 5, ground := Go.Ground.chain }], guard := none }) rfl (fun K hK => ?_) AllReadyH.nil
            refine step_append_ints O4 (one_ints b7 (wf_of_bd (by omega))) rfl _ _ rfl rfl rfl (by simp; omega) (by simp; omega) ?_
            rintro v5 w5 O5 - hb5
            obtain ⟨a9, c9, rfl⟩ := own_shape O5
            have hS5 := hS7.trans (hb5.mono (by omega))
            have hR5 := box_lowC hR4 hb5 (by omega)
            have z0 := Box.at hR5 0 _ rfl
            have z1 := Box.at hR5 1 _ rfl
            have z2 := Box.at hR5 2 _ rfl
            simp only [List.getElem_toArray, List.getElem_cons_zero, List.getElem_cons_succ] at z0 z1 z2
            have ff := Box.soft hR5
            have l0 := Box.lt hR5
            refine hK.out _ _ hS5 (fun hHeld => ?_)
            clear hK K
            try simp only [Act.put, List.setIfInBounds_toArray, List.set_cons_zero, List.set_cons_succ]
            refine wpAnyH_take (i := 9) (oi := { dst := some 32, op := Go.Op.build 26 #[(0, Go.Operand.tmp 25), (1, Go.Operand.tmp 31)], type := 26, pos := "l10_chain.go:117", after := #[{ on := 2, ground := Go.Ground.data }, { on := 8, ground := Go.Ground.data }], guard := none }) (v := ?vj9_8) rfl (by kernel_rfl) (by kernel_rfl) (by kernel_rfl) (fun _ _ _ h => h) (Or.inl ⟨by rfl, ?hj9_8⟩) hHeld ?rj9_8
            case hj9_8 =>
              intro wS hSw
              clear hSw
              have hwr : IntKind.i64.wrap (x.epoch + 1) = x.epoch + 1 := by rw [IntKind.wrap_i64]; omega
              (try dsimp only at hSw)
              go_simp
              try with_reducible rfl
            case rj9_8 =>
            simp only [Act.put, List.setIfInBounds_toArray, List.set_cons_zero, List.set_cons_succ]
            refine wpAnyH_take (i := 10) (oi := { dst := some 33, op := Go.Op.build 30 #[(1, Go.Operand.tmp 32)], type := 30, pos := "l10_chain.go:117", after := #[{ on := 9, ground := Go.Ground.data }], guard := none }) (v := ?vj10_9) rfl (by kernel_rfl) (by kernel_rfl) (by kernel_rfl) (fun _ _ _ h => h) (Or.inl ⟨by rfl, ?hj10_9⟩) hHeld ?rj10_9
            case hj10_9 =>
              intro wS hSw
              (try dsimp only at hSw)
              go_simp
              try with_reducible rfl
            case rj10_9 =>
            simp only [Act.put, List.setIfInBounds_toArray, List.set_cons_zero, List.set_cons_succ]
            refine wpAnyH_ready (rs := [11]) (by kernel_rfl) (by simp) ?_
            refine AllReadyH.cons (o := { dst := none, op := Go.Op.store 30 (Go.Operand.tmp 4) (Go.Operand.tmp 33), type := 0, pos := "l10_chain.go:117", after := #[{ on := 10, ground := Go.Ground.data }, { on := 8, ground := Go.Ground.chain }, { on := 0, ground := Go.Ground.phase }, { on := 1, ground := Go.Ground.phase }, { on := 2, ground := Go.Ground.phase }, { on := 3, ground := Go.Ground.phase }, { on := 4, ground := Go.Ground.phase }, { on := 5, ground := Go.Ground.phase }, { on := 6, ground := Go.Ground.phase }, { on := 7, ground := Go.Ground.phase }, { on := 8, ground := Go.Ground.phase }, { on := 9, ground := Go.Ground.phase }, { on := 10, ground := Go.Ground.phase }], guard := none }) rfl (fun K hK => ?_) AllReadyH.nil
            go_simp
            try go_wp2_with fail
            refine hK.out _ _ (below_setAll hS5 (w.heap.size + 1) 0 [.int .i64 0, .int .i64 (x.epoch + 1), .slice a9 (x.ids.length + [id].length) c9] (by omega)) (fun hHeld => ?_)
            clear hK K
            try simp only [Act.put, List.setIfInBounds_toArray, List.set_cons_zero, List.set_cons_succ]
            refine wpAnyH_done (by kernel_rfl) ?_ _
            refine NoPanic.normal ?_
            have hz5 := hS5.size
            have hO2 : (setAll w5 (w.heap.size + 1) 0 [.int .i64 0, .int .i64 (x.epoch + 1), .slice a9 (x.ids.length + [id].length) c9]).ownsRow W.heap.size 2 1 (.slice a9 (x.ids.length + [id].length) c9) (x.ids ++ [id]).length ((x.ids ++ [id]).map (Value.int .i64)) := by
              rw [List.length_append, List.map_append]
              exact own_setC (a := ⟨w.heap.size + 1, 2, none⟩) (own_setC (a := ⟨w.heap.size + 1, 1, none⟩) (own_setC (a := ⟨w.heap.size + 1, 0, none⟩) O5 hlW (.int .i64 0)) hlW (.int .i64 (x.epoch + 1))) hlW _
            have HO3 := hide (own_mono (b' := w.heap.size) (by omega) hO2)
            have HB2 := hide ((unhide HB).trans ((below_setAll hS5 (w.heap.size + 1) 0 [.int .i64 0, .int .i64 (x.epoch + 1), .slice a9 (x.ids.length + [id].length) c9] (by omega)).mono (by omega)))
            clear hHeld hS5 hR5 O5 hb5 hO2 hRD
            go_wp2_with fail
            refine bodyPost_ret (v := .agg #[.int .i64 0, .int .i64 (x.epoch + 1), .slice a9 (x.ids.length + [id].length) c9]) (by simp [results, Tryd.results55, go_sem, z0, z1, z2]) rfl ?_
            rw [unhide HV]
            exact ⟨_, rfl, unhide HO3, unhide HB2⟩
          case oj7_7 =>
            have b7 : Box 0 #[.int .i64 id] 2 ((wD).alloc (.cells #[.int .i64 id] 2)) (wD).heap.size := newBox (Nat.zero_le _)
            have nb7 : Below (wD).heap.size (wD) ((wD).alloc (.cells #[.int .i64 id] 2)) := (Below.refl _ _).alloc (Nat.le_refl _) _
            have hR7 := hRD.keep nb7
            have hS7 := hHeld.trans (nb7.mono (by omega))
            have hz7 := nb7.size
            go_simp
            try go_wp2_with fail
            refine hK.out _ _ hS7 (fun hHeld => ?_)
            clear hK K
            try simp only [Act.put, List.setIfInBounds_toArray, List.set_cons_zero, List.set_cons_succ]
            refine wpAnyH_ready (rs := [5]) (by kernel_rfl) (by simp) ?_
            refine AllReadyH.cons (o := { dst := some 28, op := Go.Op.call { callee := Go.Callee.value (Go.Operand.func 59), args := #[Go.Operand.tmp 27], argTypes := #[24] }, type := 24, pos := "l10_chain.go:117", after := #[{ on := 4, ground := Go.Ground.data }], guard := none }) rfl (fun K hK => ?_) AllReadyH.nil
            go_simp
            go_at_call 59
            refine (l1Ints _ x.ids _ (Lay.ints_reads (unhide HRI _ hHeld)) (by omega)).mono ?_
            rintro e w4 ⟨v4, rfl, O4, hb4⟩
            have hS4 := hHeld.trans (hb4.mono (by omega))
            have hz4 := hb4.size
            have hR4 := hR7.keep hb4
            replace O4 := own_mono (b' := W.heap.size) (by omega) O4
            replace b7 := b7.keep hb4
            try go_wp2_with fail
            refine hK.out _ _ hS4 (fun hHeld => ?_)
            clear hK K
            try simp only [Act.put, List.setIfInBounds_toArray, List.set_cons_zero, List.set_cons_succ]
            refine wpAnyH_ready (rs := [8]) (by kernel_rfl) (by simp) ?_
            refine AllReadyH.cons (o := { dst := some 31, op := Go.Op.call { callee := Go.Callee.builtin Go.Builtin.append, args := #[Go.Operand.tmp 28, Go.Operand.tmp 30], argTypes := #[24, 24] }, type := 24, pos := "l10_chain.go:117", after := #[{ on := 5, ground := Go.Ground.data }, { on := 7, ground := Go.Ground.data }, { on := 5, ground := Go.Ground.chain }], guard := none }) rfl (fun K hK => ?_) AllReadyH.nil
            refine step_append_ints O4 (one_ints b7 (wf_of_bd (by omega))) rfl _ _ rfl rfl rfl (by simp; omega) (by omega) ?_
            rintro v5 w5 O5 - hb5
            obtain ⟨a9, c9, rfl⟩ := own_shape O5
            have hS5 := hS4.trans (hb5.mono (by omega))
            have hR5 := box_lowC hR4 hb5 (by omega)
            have z0 := Box.at hR5 0 _ rfl
            have z1 := Box.at hR5 1 _ rfl
            have z2 := Box.at hR5 2 _ rfl
            simp only [List.getElem_toArray, List.getElem_cons_zero, List.getElem_cons_succ] at z0 z1 z2
            have ff := Box.soft hR5
            have l0 := Box.lt hR5
            refine hK.out _ _ hS5 (fun hHeld => ?_)
            clear hK K
            try simp only [Act.put, List.setIfInBounds_toArray, List.set_cons_zero, List.set_cons_succ]
            refine wpAnyH_take (i := 9) (oi := { dst := some 32, op := Go.Op.build 26 #[(0, Go.Operand.tmp 25), (1, Go.Operand.tmp 31)], type := 26, pos := "l10_chain.go:117", after := #[{ on := 2, ground := Go.Ground.data }, { on := 8, ground := Go.Ground.data }], guard := none }) (v := ?vj9_10) rfl (by kernel_rfl) (by kernel_rfl) (by kernel_rfl) (fun _ _ _ h => h) (Or.inl ⟨by rfl, ?hj9_10⟩) hHeld ?rj9_10
            case hj9_10 =>
              intro wS hSw
              clear hSw
              have hwr : IntKind.i64.wrap (x.epoch + 1) = x.epoch + 1 := by rw [IntKind.wrap_i64]; omega
              (try dsimp only at hSw)
              go_simp
              try with_reducible rfl
            case rj9_10 =>
            simp only [Act.put, List.setIfInBounds_toArray, List.set_cons_zero, List.set_cons_succ]
            refine wpAnyH_take (i := 10) (oi := { dst := some 33, op := Go.Op.build 30 #[(1, Go.Operand.tmp 32)], type := 30, pos := "l10_chain.go:117", after := #[{ on := 9, ground := Go.Ground.data }], guard := none }) (v := ?vj10_11) rfl (by kernel_rfl) (by kernel_rfl) (by kernel_rfl) (fun _ _ _ h => h) (Or.inl ⟨by rfl, ?hj10_11⟩) hHeld ?rj10_11
            case hj10_11 =>
              intro wS hSw
              (try dsimp only at hSw)
              go_simp
              try with_reducible rfl
            case rj10_11 =>
            simp only [Act.put, List.setIfInBounds_toArray, List.set_cons_zero, List.set_cons_succ]
            refine wpAnyH_ready (rs := [11]) (by kernel_rfl) (by simp) ?_
            refine AllReadyH.cons (o := { dst := none, op := Go.Op.store 30 (Go.Operand.tmp 4) (Go.Operand.tmp 33), type := 0, pos := "l10_chain.go:117", after := #[{ on := 10, ground := Go.Ground.data }, { on := 8, ground := Go.Ground.chain }, { on := 0, ground := Go.Ground.phase }, { on := 1, ground := Go.Ground.phase }, { on := 2, ground := Go.Ground.phase }, { on := 3, ground := Go.Ground.phase }, { on := 4, ground := Go.Ground.phase }, { on := 5, ground := Go.Ground.phase }, { on := 6, ground := Go.Ground.phase }, { on := 7, ground := Go.Ground.phase }, { on := 8, ground := Go.Ground.phase }, { on := 9, ground := Go.Ground.phase }, { on := 10, ground := Go.Ground.phase }], guard := none }) rfl (fun K hK => ?_) AllReadyH.nil
            go_simp
            try go_wp2_with fail
            refine hK.out _ _ (below_setAll hS5 (w.heap.size + 1) 0 [.int .i64 0, .int .i64 (x.epoch + 1), .slice a9 (x.ids.length + [id].length) c9] (by omega)) (fun hHeld => ?_)
            clear hK K
            try simp only [Act.put, List.setIfInBounds_toArray, List.set_cons_zero, List.set_cons_succ]
            refine wpAnyH_done (by kernel_rfl) ?_ _
            refine NoPanic.normal ?_
            have hz5 := hS5.size
            have hO2 : (setAll w5 (w.heap.size + 1) 0 [.int .i64 0, .int .i64 (x.epoch + 1), .slice a9 (x.ids.length + [id].length) c9]).ownsRow W.heap.size 2 1 (.slice a9 (x.ids.length + [id].length) c9) (x.ids ++ [id]).length ((x.ids ++ [id]).map (Value.int .i64)) := by
              rw [List.length_append, List.map_append]
              exact own_setC (a := ⟨w.heap.size + 1, 2, none⟩) (own_setC (a := ⟨w.heap.size + 1, 1, none⟩) (own_setC (a := ⟨w.heap.size + 1, 0, none⟩) O5 hlW (.int .i64 0)) hlW (.int .i64 (x.epoch + 1))) hlW _
            have HO3 := hide (own_mono (b' := w.heap.size) (by omega) hO2)
            have HB2 := hide ((unhide HB).trans ((below_setAll hS5 (w.heap.size + 1) 0 [.int .i64 0, .int .i64 (x.epoch + 1), .slice a9 (x.ids.length + [id].length) c9] (by omega)).mono (by omega)))
            clear hHeld hS5 hR5 O5 hb5 hO2 hRD
            go_wp2_with fail
            refine bodyPost_ret (v := .agg #[.int .i64 0, .int .i64 (x.epoch + 1), .slice a9 (x.ids.length + [id].length) c9]) (by simp [results, Tryd.results55, go_sem, z0, z1, z2]) rfl ?_
            rw [unhide HV]
            exact ⟨_, rfl, unhide HO3, unhide HB2⟩
  · have HV := hide (joinR_bad (id := id) hc)
    have hv := chainFault_vals x
    have hc2 : (chainFault x != 0) = true := by simpa using hc
    clear hc HA
    generalize chainFault x = f at *
    have HB2 := hide (below_setAll (unhide HB) (w.heap.size + 1) 0 [.int .i64 (f), .int .i64 0, .slice none 0 0] (by omega))
    clear HB
    go_wp2_with fail
    refine bodyPost_ret (v := .agg #[.int .i64 (f), .int .i64 0, .slice none 0 0]) (by simp [results, Tryd.results55, go_sem, z0, z1, z2]) rfl ?_
    rw [unhide HV]
    exact ⟨_, rfl, World.ownsRow_nil _ _ _ _, unhide HB2⟩
theorem joinR_parts (x : DChain) (id : Int) (hx : ∀ z ∈ x.ids, (Lit.int .i64 z).wf = true) : (Lit.int .i64 (joinR x id).code).wf = true ∧ (Lit.int .i64 (joinR x id).chain.epoch).wf = true ∧ (∀ z ∈ (joinR x id).chain.ids, (Lit.int .i64 z).wf = true) ∧ (joinR x id).chain.ids.length ≤ 6 := by
  have hv := chainFault_vals x
  have nb : ∀ c : Int, -1000000000 ≤ c ∧ c ≤ 1000000000 → (Lit.int .i64 (badChain c).code).wf = true ∧ (Lit.int .i64 (badChain c).chain.epoch).wf = true ∧ (∀ z ∈ (badChain c).chain.ids, (Lit.int .i64 z).wf = true) ∧ (badChain c).chain.ids.length ≤ 6 := fun c hc => ⟨wf_of_bd hc, by show (Lit.int .i64 0).wf = true; decide, (fun z hz => by cases hz), by simp [badChain, noChain]⟩
  unfold joinR
  split
  · rename_i h1
    have ok := chainFault_zero h1
    split
    · rename_i h2
      split
      · exact nb 6 (by omega)
      · split
        · exact nb 2 (by omega)
        · refine ⟨by show (Lit.int .i64 0).wf = true; decide, wf_of_bd (by have := ok.epoch; simp only [joinCh]; omega), fun z hz => ?_, ?_⟩
          · rcases List.mem_append.1 hz with hz | hz
            · exact hx z hz
            · rw [List.mem_singleton.1 hz]; exact wf_of_bd (by omega)
          · have := ok.len
            simp only [joinCh, List.length_append, List.length_singleton]
            omega
    · exact nb 3 (by omega)
  · exact nb _ (by omega)
theorem specJoinChain (cs : List Value) (x : DChain) (id : Int) (w : World) (h : Lay.tChain.Reads w cs x) :
    Calls Tryd.prog 55 #[.agg cs.toArray, .int .i64 id] w fun e w' => ∃ cs, e = .returned (.agg cs.toArray) ∧ Lay.tChainResult.OwnIn w' cs (joinR x id) w.heap.size w'.heap.size ∧ Below w.heap.size w w' := by
  obtain ⟨a, d, rfl, R⟩ := open_Chain h
  obtain ⟨p1, p2, p3, p4⟩ := joinR_parts x id (int_wf R)
  refine (specJoinChainG _ x id w h).mono ?_
  rintro e w' ⟨v, rfl, hO, hb⟩
  exact ⟨_, rfl, own_chainR (x := (joinR x id).chain) p1 p2 (own_intsC p3 (by omega) hO), hb⟩
end Go.Proofs.YtceoaphcjnfphaaDoor

namespace Go.Proofs.YtceoaphcjnfphaaDoor
open Go.RowKit

theorem chance5 (b m : Nat) (cv : Value) (w : World) (hs : SrcAt w b cv m) (hc : IsCode b w cv) (hm : m ≤ 100000000) (n : Int) (hn : 1 ≤ n) (hn2 : n ≤ 200) :
    Calls Tryd.prog 54 #[.pointer (some ⟨b, 0, none⟩), .int .i64 n] w fun e w' => ∃ r : Bool, e = .returned (.bool r) ∧ SrcAt w' b cv (m + 1) ∧ IsCode b w' cv ∧ w.grownBy w' (some b) := by
  have HL := hide (next b m cv n w hs hc (by omega) hn (by omega))
  clear hs hc
  go_enter Tryd.func54, Tryd.ntmps54
  go_wp2_with fail
  refine (unhide HL).mono ?_
  rintro e w1 ⟨r, rfl, hr, s1, c1, g1⟩
  have HS := hide s1
  have HC := hide c1
  have HG := hide g1
  clear s1 c1 g1 HL
  go_wp2_with fail
  go_ret
  exact ⟨_, rfl, unhide HS, unhide HC, unhide HG⟩
end Go.Proofs.YtceoaphcjnfphaaDoor

namespace Go.Proofs.YtceoaphcjnfphaaDoor
open Go.RowKit

theorem fieldCR1 (c e : Int) (a : Option Addr) (n cp : Nat) (w : World) : (Instr.field 30 (.agg #[.int .i64 c, .int .i64 e, .slice a n cp]) 1).run Tryd.prog w = .ok (.agg #[.int .i64 e, .slice a n cp]) w := by kernel_rfl
theorem cutL_less {ids : List Int} {z : Int} (h : z ∈ ids) : (cutL ids z).length + 1 ≤ ids.length := by
  have h1 := List.length_filter_lt_length_iff_exists (l := ids) (p := fun u => u != z)
  have : (cutL ids z).length < ids.length := h1.2 ⟨z, h, by simp⟩
  omega

set_option maxRecDepth 100000 in
set_option maxHeartbeats 8000000 in
theorem drawBent10 (b m : Nat) (cv : Value) (w : World) (hs : SrcAt w b cv m) (hc : IsCode b w cv) (hm : m ≤ 1000) :
    Calls Tryd.prog 40 #[.pointer (some ⟨b, 0, none⟩)] w (ChainPost 100 b m cv w) := by
  have hbw0 := hs.lt
  have nb : Below w.heap.size w (w.alloc (.cells #[.int .i64 0, .slice none 0 0] 26)) := (Below.refl _ _).alloc (Nat.le_refl _) _
  have bR : Box 0 #[.int .i64 0, .slice none 0 0] 26 (w.alloc (.cells #[.int .i64 0, .slice none 0 0] 26)) w.heap.size := newBox (Nat.zero_le _)
  have L1 := hide (next b m cv 5 _ (hs.onW nb) (hc.onW (Nat.le_of_lt hbw0) nb) (by omega) (by omega) (by omega))
  have HE0 := hide (ext_of_below nb (fun q => q = b ∨ w.heap.size ≤ q))
  have HR0 := hide bR
  have hz0 : w.heap.size < (w.alloc (.cells #[.int .i64 0, .slice none 0 0] 26)).heap.size := by simp
  clear nb bR hs hc
  go_enter Tryd.func40, Tryd.ntmps40
  go_wp2_with fail
  generalize w.alloc (.cells #[.int .i64 0, .slice none 0 0] 26) = W0 at *
  refine (unhide L1).mono ?_
  rintro e w1 ⟨r1, rfl, hr1, s1, c1, g1⟩
  have hz1 : W0.heap.size ≤ w1.heap.size := g1.size
  have HE1 := hide ((unhide HE0).trans ((ext_grown g1).mono fun k _ h => Or.inl h))
  have HR1 := hide ((unhide HR0).ext (ext_grown g1) (by omega))
  have HS1 := hide s1
  have HC1 := hide c1
  have L2 := l10NewC (1 + r1) w1 (by omega)
  rw [show ((1 + r1 : Nat) : Int) = 1 + (r1 : Int) by omega] at L2
  have HL2 := hide L2
  clear L1 L2 HE0 HR0 s1 c1 g1
  go_wp2_with fail
  refine (unhide HL2).mono ?_
  rintro e w2 ⟨v, rfl, hO, hb2⟩
  obtain ⟨av, cp, rfl⟩ := own_shape hO
  have hz2 := hb2.size
  have nb2 : Below w2.heap.size w2 (w2.alloc (.cells #[.int .i64 1, .slice av (1 + r1) cp] 26)) := (Below.refl _ _).alloc (Nat.le_refl _) _
  have hst : CSt w b w2.heap.size (m + 1) cv (w2.alloc (.cells #[.int .i64 1, .slice av (1 + r1) cp] 26)) (.slice av (1 + r1) cp) ⟨1, upToC (1 + r1)⟩ :=
    ⟨newBox (Nat.zero_le _), ((unhide HR1).keep hb2).keep nb2, own_below (by rw [upToC_len]; exact own_mono (b' := w.heap.size + 1) (by omega) hO) nb2, fun z hz => by have := upToC_bd hz; omega, ((unhide HS1).onW hb2).onW nb2, ((unhide HC1).onW (by omega) hb2).onW (by omega) nb2, ((unhide HE1).trans (ext_of_below hb2 _)).trans (ext_of_below nb2 _), hbw0, by omega⟩
  have L3 := hide (next b (m + 1) cv 4 _ hst.src hst.code (by omega) (by omega) (by omega))
  have HST0 := hide hst
  clear HL2 HE1 HR1 HS1 HC1 hO hb2 nb2 hst
  go_wp2_with fail
  generalize w2.alloc (.cells #[.int .i64 1, .slice av (1 + r1) cp] 26) = W2 at *
  refine (unhide L3).mono ?_
  rintro e w3 ⟨r3, rfl, hr3, s3, c3, g3⟩
  have HST3 := hide ((unhide HST0).go g3 s3 c3)
  clear L3 HST0 s3 c3 g3
  go_wp2_with fail
  generalize w2.heap.size = C at *
  go_loopw [4] (fun i wr => ∃ (k m3 : Nat) (v : Value) (x : DChain), k ≤ 3 ∧ i = .int .i64 k ∧ CSt w b C m3 cv wr v x ∧ (∀ z ∈ x.ids, 1 ≤ z ∧ z ≤ 5) ∧ x.ids.length ≤ 5 ∧ (0 ≤ x.epoch ∧ x.epoch + 2 * k ≤ 10) ∧ m3 + 2 * k ≤ m + 10) (fun i _ => (intOf i).toNat)
  case atStart => exact ⟨r3, m + 1 + 1, _, _, by omega, rfl, unhide HST3, fun z hz => by have := upToC_bd hz; omega, by rw [upToC_len]; omega, by simp only; omega, by omega⟩
  case round =>
    obtain ⟨k, m3, v, x, hk, rfl, hst, hi, hl, he, hm3⟩ := hrel
    clear HST3
    obtain ⟨av, cp, rfl⟩ := own_shape hst.own
    have c1 := Box.at hst.box 1 _ rfl
    simp only [List.getElem_toArray, List.getElem_cons_zero, List.getElem_cons_succ] at c1
    have cl := Box.lt hst.box
    by_cases hq : 0 < k ∧ 1 < x.ids.length
    · obtain ⟨j, rfl⟩ : ∃ j, k = j + 1 := ⟨k - 1, by omega⟩
      obtain ⟨g, rfl, hg⟩ := own_some hst.own (by omega)
      have hdk : decide ((0 : Int) < ((j + 1 : Nat) : Int)) = true := by rw [decide_eq_true_eq]; omega
      have hdl : decide ((1 : Int) < (x.ids.length : Int)) = true := by simp; omega
      have HI := hide hi
      have HST := hide hst
      have hSTD := hst.drew
      have hbC : b ≠ C := by have := hst.bw; have := hst.cw; omega
      have hgb : g ≠ b := by have := hst.bw; omega
      clear hst hi
      go_wp2_with fail
      refine wp_region_noPanic ?_
      refine wp_region_held_drew (S := fun w' => Ext (fun q => q = b) wr w') (by kernel_rfl) ⟨rfl, rfl, rfl, Nat.le_refl _, fun _ _ _ => rfl⟩ (fun hHeld => ?_)
      generalize wr.drew = wD at hHeld hSTD ⊢
      refine wpAnyH_take (i := 0) (oi := { dst := some 22, op := Go.Op.fieldAddr 26 (Go.Operand.tmp 3) 1, type := 0, pos := "l10_chain.go:145", after := #[], guard := none }) (v := ?vn0_1) rfl (by kernel_rfl) (by kernel_rfl) (by kernel_rfl) (fun _ _ _ h => h) (Or.inl ⟨by rfl, ?hn0_1⟩) hHeld ?rn0_1
      case hn0_1 =>
        intro wS hSw
        (try dsimp only at hSw)
        go_simp
        try with_reducible rfl
      case rn0_1 =>
      simp only [Act.put, List.setIfInBounds_toArray, List.set_cons_zero, List.set_cons_succ]
      refine wpAnyH_take (i := 1) (oi := { dst := some 23, op := Go.Op.load 24 (Go.Operand.tmp 22), type := 24, pos := "l10_chain.go:145", after := #[{ on := 0, ground := Go.Ground.data }], guard := none }) (v := ?vn1_2) rfl (by kernel_rfl) (by kernel_rfl) (by kernel_rfl) (fun _ _ _ h => h) (Or.inl ⟨by rfl, ?hn1_2⟩) hHeld ?rn1_2
      case hn1_2 =>
        intro wS hSw
        have y1 := Box.at ((unhide HST).box.ext hSw (fun e => hbC e.symm)) 1 _ rfl
        simp only [List.getElem_toArray, List.getElem_cons_zero, List.getElem_cons_succ] at y1
        have yl := Box.lt ((unhide HST).box.ext hSw (fun e => hbC e.symm))
        clear hSw
        (try dsimp only at hSw)
        go_simp
        try with_reducible rfl
      case rn1_2 =>
      simp only [Act.put, List.setIfInBounds_toArray, List.set_cons_zero, List.set_cons_succ]
      refine wpAnyH_take (i := 2) (oi := { dst := some 24, op := Go.Op.move (Go.Operand.tmp 0), type := 64, pos := "l10_chain.go:145", after := #[], guard := none }) (v := ?vn2_3) rfl (by kernel_rfl) (by kernel_rfl) (by kernel_rfl) (fun _ _ _ h => h) (Or.inl ⟨by rfl, ?hn2_3⟩) hHeld ?rn2_3
      case hn2_3 =>
        intro wS hSw
        (try dsimp only at hSw)
        go_simp
        try with_reducible rfl
      case rn2_3 =>
      simp only [Act.put, List.setIfInBounds_toArray, List.set_cons_zero, List.set_cons_succ]
      refine wpAnyH_take (i := 3) (oi := { dst := some 25, op := Go.Op.fieldAddr 26 (Go.Operand.tmp 3) 1, type := 0, pos := "l10_chain.go:145", after := #[], guard := none }) (v := ?vn3_4) rfl (by kernel_rfl) (by kernel_rfl) (by kernel_rfl) (fun _ _ _ h => h) (Or.inl ⟨by rfl, ?hn3_4⟩) hHeld ?rn3_4
      case hn3_4 =>
        intro wS hSw
        (try dsimp only at hSw)
        go_simp
        try with_reducible rfl
      case rn3_4 =>
      simp only [Act.put, List.setIfInBounds_toArray, List.set_cons_zero, List.set_cons_succ]
      refine wpAnyH_take (i := 4) (oi := { dst := some 26, op := Go.Op.load 24 (Go.Operand.tmp 25), type := 24, pos := "l10_chain.go:145", after := #[{ on := 3, ground := Go.Ground.data }], guard := none }) (v := ?vn4_5) rfl (by kernel_rfl) (by kernel_rfl) (by kernel_rfl) (fun _ _ _ h => h) (Or.inl ⟨by rfl, ?hn4_5⟩) hHeld ?rn4_5
      case hn4_5 =>
        intro wS hSw
        have y1 := Box.at ((unhide HST).box.ext hSw (fun e => hbC e.symm)) 1 _ rfl
        simp only [List.getElem_toArray, List.getElem_cons_zero, List.getElem_cons_succ] at y1
        have yl := Box.lt ((unhide HST).box.ext hSw (fun e => hbC e.symm))
        clear hSw
        (try dsimp only at hSw)
        go_simp
        try with_reducible rfl
      case rn4_5 =>
      simp only [Act.put, List.setIfInBounds_toArray, List.set_cons_zero, List.set_cons_succ]
      refine wpAnyH_take (i := 5) (oi := { dst := some 27, op := Go.Op.call { callee := Go.Callee.builtin Go.Builtin.len, args := #[Go.Operand.tmp 26], argTypes := #[24] }, type := 3, pos := "l10_chain.go:145", after := #[{ on := 4, ground := Go.Ground.data }], guard := none }) (v := ?vn5_6) rfl (by kernel_rfl) (by kernel_rfl) (by kernel_rfl) (fun _ _ _ h => h) (Or.inl ⟨by rfl, ?hn5_6⟩) hHeld ?rn5_6
      case hn5_6 =>
        intro wS hSw
        (try dsimp only at hSw)
        go_simp
        try with_reducible rfl
      case rn5_6 =>
      simp only [Act.put, List.setIfInBounds_toArray, List.set_cons_zero, List.set_cons_succ]
      refine wpAnyH_ready (rs := [6]) (by kernel_rfl) (by simp) ?_
      refine AllReadyH.cons (o := { dst := some 28, op := Go.Op.call { callee := Go.Callee.value (Go.Operand.func 53), args := #[Go.Operand.tmp 24, Go.Operand.tmp 27], argTypes := #[64, 2] }, type := 2, pos := "l10_chain.go:145", after := #[{ on := 2, ground := Go.Ground.data }, { on := 5, ground := Go.Ground.data }], guard := none }) rfl (fun K hK => ?_) AllReadyH.nil
      go_simp
      go_at_call 53
      refine (next b m3 cv (x.ids.length : Int) _ hSTD.src hSTD.code (by omega) (by omega) (by omega)).mono ?_
      rintro e w4 ⟨r, rfl, hr, s4, c4, g4⟩
      have hrl : r < x.ids.length := by omega
      have hS4 := hHeld.trans (ext_grown g4)
      have hT4 := hSTD.go g4 s4 c4
      try go_wp2_with fail
      refine hK.out _ _ hS4 (fun hHeld => ?_)
      clear hK K
      try simp only [Act.put, List.setIfInBounds_toArray, List.set_cons_zero, List.set_cons_succ]
      refine wpAnyH_take (i := 7) (oi := { dst := some 29, op := Go.Op.indexAddr 24 (Go.Operand.tmp 23) (Go.Operand.tmp 28), type := 0, pos := "l10_chain.go:145", after := #[{ on := 1, ground := Go.Ground.data }, { on := 6, ground := Go.Ground.data }], guard := none }) (v := ?vn7_7) rfl (by kernel_rfl) (by kernel_rfl) (by kernel_rfl) (fun _ _ _ h => h) (Or.inl ⟨by rfl, ?hn7_7⟩) hHeld ?rn7_7
      case hn7_7 =>
        intro wS hSw
        clear hSw
        have q1 : (r : Int) < (x.ids.length : Int) := by omega
        have q2 : (0 : Int) ≤ (r : Int) := by omega
        (try dsimp only at hSw)
        go_simp
        try with_reducible rfl
      case rn7_7 =>
      simp only [Act.put, List.setIfInBounds_toArray, List.set_cons_zero, List.set_cons_succ]
      refine wpAnyH_take (i := 8) (oi := { dst := some 30, op := Go.Op.load 2 (Go.Operand.tmp 29), type := 2, pos := "l10_chain.go:145", after := #[{ on := 7, ground := Go.Ground.data }], guard := none }) (v := ?vn8_8) rfl (by kernel_rfl) (by kernel_rfl) (by kernel_rfl) (fun _ _ _ h => h) (Or.inl ⟨by rfl, ?hn8_8⟩) hHeld ?rn8_8
      case hn8_8 =>
        intro wS hSw
        have zc := int_cell (b := g) (off := 0) (cap := cp) (k := r) (Lay.ownInts (unhide HST).wf (by omega) (own_extC (unhide HST).own hSw (fun c hc e => hgb (by simp [Value.ownBlock] at hc; omega)))).reads hrl
        simp only [Nat.zero_add] at zc
        clear hSw
        (try dsimp only at hSw)
        go_simp
        try with_reducible rfl
      case rn8_8 =>
      simp only [Act.put, List.setIfInBounds_toArray, List.set_cons_zero, List.set_cons_succ]
      refine wpAnyH_take (i := 9) (oi := { dst := some 5, op := Go.Op.assign (Go.Operand.tmp 30), type := 2, pos := "l10_chain.go:145", after := #[{ on := 8, ground := Go.Ground.data }, { on := 6, ground := Go.Ground.chain }, { on := 0, ground := Go.Ground.phase }, { on := 1, ground := Go.Ground.phase }, { on := 2, ground := Go.Ground.phase }, { on := 3, ground := Go.Ground.phase }, { on := 4, ground := Go.Ground.phase }, { on := 5, ground := Go.Ground.phase }, { on := 6, ground := Go.Ground.phase }, { on := 7, ground := Go.Ground.phase }, { on := 8, ground := Go.Ground.phase }], guard := none }) (v := ?vn9_9) rfl (by kernel_rfl) (by kernel_rfl) (by kernel_rfl) (fun _ _ _ h => h) (Or.inl ⟨by rfl, ?hn9_9⟩) hHeld ?rn9_9
      case hn9_9 =>
        intro wS hSw
        (try dsimp only at hSw)
        go_simp
        try with_reducible rfl
      case rn9_9 =>
      simp only [Act.put, List.setIfInBounds_toArray, List.set_cons_zero, List.set_cons_succ]
      refine wpAnyH_done (by kernel_rfl) ?_ _
      refine NoPanic.normal ?_
      have hz := unhide HI x.ids[r] (List.getElem_mem hrl)
      have hzm : x.ids[r] ∈ x.ids := List.getElem_mem hrl
      have hcl := cutL_less hzm
      have HCI : Hid (∀ u ∈ cutL x.ids x.ids[r], 1 ≤ u ∧ u ≤ 5) := fun u hu => unhide HI u (List.mem_filter.1 hu).1
      clear hHeld hS4 hSTD s4 c4 g4 hzm HST
      generalize x.ids[r] = z at *
      have L6 := hide (l10CutC C (some ⟨g, 0, none⟩) cp x z w4 hT4.box (hT4.reads (by omega)) (by omega) (by omega))
      have HT4 := hide hT4
      clear hT4
      go_wp2_with fail
      refine (unhide L6).mono ?_
      rintro e w5 ⟨v5, rfl, hO5, hb5⟩
      obtain ⟨a5, c5, rfl⟩ := own_shape hO5
      have hT5 := (unhide HT4).later hb5
      have hz4 : w.heap.size + 1 ≤ w4.heap.size := by have := (unhide HT4).box.lt; have := (unhide HT4).cw; omega
      have hT6 := hT5.put ⟨x.epoch + 1, cutL x.ids z⟩ (own_mono hz4 hO5) (fun u hu => by have := unhide HCI u hu; omega)
      have d0 := Box.at hT5.box 0 _ rfl
      have d1 := Box.at hT5.box 1 _ rfl
      simp only [List.getElem_toArray, List.getElem_cons_zero, List.getElem_cons_succ] at d0 d1
      have df := Box.soft hT5.box
      have dl := Box.lt hT5.box
      have L7 := hide (chance5 b (m3 + 1) cv _ hT6.src hT6.code (by omega) 2 (by omega) (by omega))
      have HT6 := hide hT6
      clear hT5 hT6 HT4 L6 hO5 hb5
      go_wp2_with fail
      clear d0 d1 df dl
      generalize (w5.setCell ⟨C, 0, none⟩ (.int .i64 (x.epoch + 1))).setCell ⟨C, 1, none⟩ (.slice a5 (cutL x.ids z).length c5) = W6 at *
      refine (unhide L7).mono ?_
      rintro e w7 ⟨q7, rfl, s7, c7, g7⟩
      have HT7 := hide ((unhide HT6).go g7 s7 c7)
      clear L7 HT6 s7 c7 g7
      cases q7
      · go_wp2_with fail
        go_roundw
        case rel => exact ⟨j, m3 + 1 + 1, _, _, by omega, by go_num, unhide HT7, unhide HCI, by simp only; omega, by simp only; omega, by omega⟩
        case measure => first | (simp [intOf]; done) | (simp [intOf]; omega)
      · have hT7 := unhide HT7
        have hjf := joinR_few (x := ⟨x.epoch + 1, cutL x.ids z⟩) (z := z) (unhide HCI) hz (by simp only; omega)
        have HJF := hide hjf
        have L8 := hide (specJoinChainG _ ⟨x.epoch + 1, cutL x.ids z⟩ z w7 (chain_reads (x := ⟨x.epoch + 1, cutL x.ids z⟩) (wf_of_bd (by simp only; omega)) (hT7.reads (by simp only; omega))))
        have d0 := Box.at hT7.box 0 _ rfl
        have d1 := Box.at hT7.box 1 _ rfl
        simp only [List.getElem_toArray, List.getElem_cons_zero, List.getElem_cons_succ] at d0 d1
        have df := Box.soft hT7.box
        have dl := Box.lt hT7.box
        clear hT7 hjf
        go_wp2_with fail
        clear d0 d1 df dl
        refine (unhide L8).mono ?_
        rintro e w8 ⟨v8, rfl, hO8, hb8⟩
        obtain ⟨a8, c8, rfl⟩ := own_shape hO8
        have hT8 := (unhide HT7).later hb8
        have hz7 : w.heap.size + 1 ≤ w7.heap.size := by have := (unhide HT7).box.lt; have := (unhide HT7).cw; omega
        obtain ⟨j1, j2, j3⟩ := unhide HJF
        have HT9 := hide (hT8.put (joinR ⟨x.epoch + 1, cutL x.ids z⟩ z).chain (own_mono hz7 hO8) (fun u hu => by have := j1 u hu; omega))
        have HJ1 := hide j1
        have hfl := fun w => fieldCR1 (joinR ⟨x.epoch + 1, cutL x.ids z⟩ z).code (joinR ⟨x.epoch + 1, cutL x.ids z⟩ z).chain.epoch a8 (joinR ⟨x.epoch + 1, cutL x.ids z⟩ z).chain.ids.length c8 w
        have d0 := Box.at hT8.box 0 _ rfl
        have d1 := Box.at hT8.box 1 _ rfl
        simp only [List.getElem_toArray, List.getElem_cons_zero, List.getElem_cons_succ] at d0 d1
        have df := Box.soft hT8.box
        have dl := Box.lt hT8.box
        clear hT8 HT7 L8 hO8 hb8 HJF j1
        generalize (joinR ⟨x.epoch + 1, cutL x.ids z⟩ z).code = jc at *
        generalize (joinR ⟨x.epoch + 1, cutL x.ids z⟩ z).chain = jx at *
        try simp only at j2 j3
        go_wp2_with fail
        go_roundw
        case rel => exact ⟨j, m3 + 1 + 1, _, _, by omega, by go_num, unhide HT9, unhide HJ1, by omega, by omega, by omega⟩
        case measure => first | (simp [intOf]; done) | (simp [intOf]; omega)
    · have HST := hide hst
      by_cases h0 : 0 < k
      · have hdk : decide ((0 : Int) < (k : Int)) = true := by simp; omega
        have hdl : decide ((1 : Int) < (x.ids.length : Int)) = false := by simp; omega
        clear hst hi
        have L9 := hide (next b m3 cv 14 wr (unhide HST).src (unhide HST).code (by omega) (by omega) (by omega))
        go_wp2_with fail
        refine (unhide L9).mono ?_
        rintro e w9 ⟨q, rfl, hq9, s9, c9, g9⟩
        have HT := hide ((unhide HST).go g9 s9 c9)
        clear L9 s9 c9 g9 HST
        rcases (show q = 0 ∨ q = 1 ∨ q = 2 ∨ 3 ≤ q by omega) with rfl | rfl | rfl | h3
        · have nbA : Below w9.heap.size w9 (w9.alloc (.cells #[.int .i64 0, .int .i64 999, .int .i64 1000] 2)) := (Below.refl _ _).alloc (Nat.le_refl _) _
          have hTA := (unhide HT).later nbA
          have L10 := hide (pick b (m3 + 1) w9.heap.size cv [0, 999, 1000] _ hTA.src hTA.code (by omega) (by simp) (by simp) (heap_alloc_new w9 _) (by have := (unhide HT).src.lt; omega))
          have HTA := hide hTA
          clear hTA nbA HT
          go_wp2_with fail
          generalize w9.alloc (.cells #[.int .i64 0, .int .i64 999, .int .i64 1000] 2) = WA at *
          refine (unhide L10).mono ?_
          rintro e w10 ⟨p, rfl, hp, s10, c10, g10⟩
          have hpb : 0 ≤ p ∧ p ≤ 1000 := by
            simp only [List.mem_cons, List.not_mem_nil, or_false] at hp
            omega
          have hTB := (unhide HTA).go g10 s10 c10
          have y0 := Box.at hTB.box 0 _ rfl
          simp only [List.getElem_toArray, List.getElem_cons_zero] at y0
          have yf := Box.soft hTB.box
          have yl := Box.lt hTB.box
          have HTC := hide (hTB.putE p)
          clear hTB HTA L10 s10 c10 g10 hp
          go_upto_region 16 with fail
          clear y0 yf yl
          generalize w10.setCell ⟨C, 0, none⟩ (.int .i64 p) = W9 at *
          have hT := unhide HTC
          clear HTC
          have c0 := Box.at hT.box 0 _ rfl
          have c1 := Box.at hT.box 1 _ rfl
          simp only [List.getElem_toArray, List.getElem_cons_zero, List.getElem_cons_succ] at c0 c1
          have cf := Box.soft hT.box
          have cl := Box.lt hT.box
          have z0 := Box.at hT.res 0 _ rfl
          have z1 := Box.at hT.res 1 _ rfl
          simp only [List.getElem_toArray, List.getElem_cons_zero, List.getElem_cons_succ] at z0 z1
          have zf := Box.soft hT.res
          have zl := Box.lt hT.res
          have HP := hide (hT.close (M := 100) (m0 := m) (by simp only; omega) (by simp only; omega) (by omega))
          clear hT
          go_wp2_with fail
          refine bodyPost_ret (v := .agg #[.int .i64 (p), .slice av x.ids.length cp]) (by simp [results, Tryd.results40, go_sem, z0, z1]) rfl ?_
          exact unhide HP
        · have hT0 := (unhide HT).drew
          clear HT
          go_upto_region 13 with fail
          refine wp_region_noPanic ?_
          refine wp_region_held_drew (S := fun _ => True) (by kernel_rfl) trivial (fun hHeld => ?_)
          generalize w9.drew = wD at hHeld hT0 ⊢
          refine wpAnyH_take (i := 0) (oi := { dst := some 49, op := Go.Op.fieldAddr 26 (Go.Operand.tmp 3) 1, type := 0, pos := "l10_chain.go:155", after := #[], guard := none }) (v := ?vg10a0_1) rfl (by kernel_rfl) (by kernel_rfl) (by kernel_rfl) (fun _ _ _ h => h) (Or.inl ⟨by rfl, ?hg10a0_1⟩) hHeld ?rg10a0_1
          case hg10a0_1 =>
            intro wS hSw
            (try dsimp only at hSw)
            go_simp
            try with_reducible rfl
          case rg10a0_1 =>
          simp only [Act.put, List.setIfInBounds_toArray, List.set_cons_zero, List.set_cons_succ]
          refine wpAnyH_take (i := 2) (oi := { dst := some 51, op := Go.Op.move (Go.Operand.tmp 0), type := 64, pos := "l10_chain.go:155", after := #[], guard := none }) (v := ?vg10a2_2) rfl (by kernel_rfl) (by kernel_rfl) (by kernel_rfl) (fun _ _ _ h => h) (Or.inl ⟨by rfl, ?hg10a2_2⟩) hHeld ?rg10a2_2
          case hg10a2_2 =>
            intro wS hSw
            (try dsimp only at hSw)
            go_simp
            try with_reducible rfl
          case rg10a2_2 =>
          simp only [Act.put, List.setIfInBounds_toArray, List.set_cons_zero, List.set_cons_succ]
          refine wpAnyH_ready (rs := [1, 3]) (by kernel_rfl) (by simp) ?_
          refine AllReadyH.cons (o := { dst := some 50, op := Go.Op.load 24 (Go.Operand.tmp 49), type := 24, pos := "l10_chain.go:155", after := #[{ on := 0, ground := Go.Ground.data }], guard := none }) rfl (fun K hK => ?og10a1_3) (AllReadyH.cons (o := { dst := some 52, op := Go.Op.buildSlice 24 4 #[(0, Go.Operand.const (Go.Value.int Go.IntKind.i64 0)), (1, Go.Operand.const (Go.Value.int Go.IntKind.i64 1)), (2, Go.Operand.const (Go.Value.int Go.IntKind.i64 5)), (3, Go.Operand.const (Go.Value.int Go.IntKind.i64 6))], type := 24, pos := "l10_chain.go:155", after := #[], guard := none }) rfl (fun K hK => ?og10a3_3) (AllReadyH.nil))
          case og10a1_3 =>
            have y1 := Box.at hT0.box 1 _ rfl
            simp only [List.getElem_toArray, List.getElem_cons_zero, List.getElem_cons_succ] at y1
            have yl := Box.lt hT0.box
            go_simp
            try go_wp2_with fail
            refine hK.out _ _ trivial (fun hHeld => ?_)
            clear hK K
            try simp only [Act.put, List.setIfInBounds_toArray, List.set_cons_zero, List.set_cons_succ]
            refine wpAnyH_ready (rs := [3]) (by kernel_rfl) (by simp) ?_
            refine AllReadyH.cons (o := { dst := some 52, op := Go.Op.buildSlice 24 4 #[(0, Go.Operand.const (Go.Value.int Go.IntKind.i64 0)), (1, Go.Operand.const (Go.Value.int Go.IntKind.i64 1)), (2, Go.Operand.const (Go.Value.int Go.IntKind.i64 5)), (3, Go.Operand.const (Go.Value.int Go.IntKind.i64 6))], type := 24, pos := "l10_chain.go:155", after := #[], guard := none }) rfl (fun K hK => ?_) AllReadyH.nil
            have nb3 : Below wD.heap.size wD (wD.alloc (.cells #[.int .i64 0, .int .i64 1, .int .i64 5, .int .i64 6] 2)) := (Below.refl _ _).alloc (Nat.le_refl _) _
            have hT3 := hT0.later nb3
            go_simp
            try go_wp2_with fail
            refine hK.out _ _ trivial (fun hHeld => ?_)
            clear hK K
            try simp only [Act.put, List.setIfInBounds_toArray, List.set_cons_zero, List.set_cons_succ]
            refine wpAnyH_ready (rs := [4]) (by kernel_rfl) (by simp) ?_
            refine AllReadyH.cons (o := { dst := some 53, op := Go.Op.call { callee := Go.Callee.value (Go.Operand.func 41), args := #[Go.Operand.tmp 51, Go.Operand.tmp 52], argTypes := #[64, 24] }, type := 2, pos := "l10_chain.go:155", after := #[{ on := 2, ground := Go.Ground.data }, { on := 3, ground := Go.Ground.data }], guard := none }) rfl (fun K hK => ?_) AllReadyH.nil
            go_simp
            go_at_call 41
            refine (pick b (m3 + 1) wD.heap.size cv [0, 1, 5, 6] _ hT3.src hT3.code (by omega) (by simp) (by simp) (heap_alloc_new wD _) (by have := hT0.src.lt; omega)).mono ?_
            rintro e w4 ⟨p, rfl, hp, s4, c4, g4⟩
            have hpb : 0 ≤ p ∧ p ≤ 1000 := by
              simp only [List.mem_cons, List.not_mem_nil, or_false] at hp
              omega
            have hT4 := hT3.go g4 s4 c4
            try go_wp2_with fail
            refine hK.out _ _ trivial (fun hHeld => ?_)
            clear hK K
            try simp only [Act.put, List.setIfInBounds_toArray, List.set_cons_zero, List.set_cons_succ]
            refine wpAnyH_ready (rs := [5]) (by kernel_rfl) (by simp) ?_
            refine AllReadyH.cons (o := { dst := some 54, op := Go.Op.buildSlice 24 1 #[(0, Go.Operand.tmp 53)], type := 24, pos := "l10_chain.go:155", after := #[{ on := 4, ground := Go.Ground.data }], guard := none }) rfl (fun K hK => ?_) AllReadyH.nil
            have nb5 : Below w4.heap.size w4 (w4.alloc (.cells #[.int .i64 p] 2)) := (Below.refl _ _).alloc (Nat.le_refl _) _
            have hT5 := hT4.later nb5
            go_simp
            try go_wp2_with fail
            refine hK.out _ _ trivial (fun hHeld => ?_)
            clear hK K
            try simp only [Act.put, List.setIfInBounds_toArray, List.set_cons_zero, List.set_cons_succ]
            refine wpAnyH_ready (rs := [6]) (by kernel_rfl) (by simp) ?_
            refine AllReadyH.cons (o := { dst := some 55, op := Go.Op.call { callee := Go.Callee.builtin Go.Builtin.append, args := #[Go.Operand.tmp 50, Go.Operand.tmp 54], argTypes := #[24, 24] }, type := 24, pos := "l10_chain.go:155", after := #[{ on := 1, ground := Go.Ground.data }, { on := 5, ground := Go.Ground.data }, { on := 4, ground := Go.Ground.chain }], guard := none }) rfl (fun K hK => ?_) AllReadyH.nil
            refine step_append_int hT4.own p rfl _ _ rfl rfl rfl (by omega) (by have := hT4.size; have := hT4.box.lt; have := hT4.cw; omega) ?_
            intro g cap w5 hO5 hg5 hb5 hgl hz5
            have hbx := hT4.box.ext (⟨hg5.os, hg5.tape, hg5.output, hg5.size, fun k hk hn => hg5.block k hk (fun e => hn e.symm)⟩ : Ext (fun q => (Value.slice av x.ids.length cp).ownBlock = some q) w4 w5) (fun q => box_neC hT4.own hT4.box (by decide) _ q rfl)
            have u1 := Box.at hbx 1 _ rfl
            simp only [List.getElem_toArray, List.getElem_cons_zero, List.getElem_cons_succ] at u1
            have uf := Box.soft hbx
            have ul := Box.lt hbx
            refine hK.out _ _ trivial (fun hHeld => ?_)
            clear hK K
            try simp only [Act.put, List.setIfInBounds_toArray, List.set_cons_zero, List.set_cons_succ]
            refine wpAnyH_take (i := 7) (oi := { dst := some 56, op := Go.Op.fieldAddr 26 (Go.Operand.tmp 3) 1, type := 0, pos := "l10_chain.go:155", after := #[{ on := 0, ground := Go.Ground.phase }, { on := 1, ground := Go.Ground.phase }, { on := 2, ground := Go.Ground.phase }, { on := 3, ground := Go.Ground.phase }, { on := 4, ground := Go.Ground.phase }, { on := 5, ground := Go.Ground.phase }, { on := 6, ground := Go.Ground.phase }], guard := none }) (v := ?vg10a7_4) rfl (by kernel_rfl) (by kernel_rfl) (by kernel_rfl) (fun _ _ _ h => h) (Or.inl ⟨by rfl, ?hg10a7_4⟩) hHeld ?rg10a7_4
            case hg10a7_4 =>
              intro wS hSw
              (try dsimp only at hSw)
              go_simp
              try with_reducible rfl
            case rg10a7_4 =>
            simp only [Act.put, List.setIfInBounds_toArray, List.set_cons_zero, List.set_cons_succ]
            refine wpAnyH_ready (rs := [8]) (by kernel_rfl) (by simp) ?_
            refine AllReadyH.cons (o := { dst := none, op := Go.Op.store 24 (Go.Operand.tmp 56) (Go.Operand.tmp 55), type := 0, pos := "l10_chain.go:155", after := #[{ on := 7, ground := Go.Ground.data }, { on := 6, ground := Go.Ground.data }, { on := 6, ground := Go.Ground.chain }, { on := 0, ground := Go.Ground.phase }, { on := 1, ground := Go.Ground.phase }, { on := 2, ground := Go.Ground.phase }, { on := 3, ground := Go.Ground.phase }, { on := 4, ground := Go.Ground.phase }, { on := 5, ground := Go.Ground.phase }, { on := 6, ground := Go.Ground.phase }], guard := none }) rfl (fun K hK => ?_) AllReadyH.nil
            go_simp
            try go_wp2_with fail
            refine hK.out _ _ trivial (fun hHeld => ?_)
            clear hK K
            try simp only [Act.put, List.setIfInBounds_toArray, List.set_cons_zero, List.set_cons_succ]
            refine wpAnyH_done (by kernel_rfl) ?_ _
            refine NoPanic.normal ?_
            have hO6 : w5.ownsRow (w.heap.size + 1) 2 1 (.slice (some ⟨g, 0, none⟩) (x.ids.length + 1) cap) (x.ids ++ [p]).length ((x.ids ++ [p]).map (Value.int .i64)) := by
              rw [List.length_append, List.map_append]
              exact hO5
            have hT9 := hT4.append (x.ids ++ [p]) hg5 hO6 (fun z hz => by
              rcases List.mem_append.1 hz with hz | hz
              · exact hT4.ids z hz
              · rw [List.mem_singleton.1 hz]; omega)
            clear hHeld hT0 hT3 hT4 hT5 hO5 hO6 hg5 hb5 hbx u1 uf ul y1 yl nb3 nb5
            have HT9 := hide hT9
            clear hT9
            go_upto_region 16 with fail
            generalize w5.setCell ⟨C, 1, none⟩ (.slice (some ⟨g, 0, none⟩) (x.ids.length + 1) cap) = W9 at *
            have hT := unhide HT9
            clear HT9
            have c0 := Box.at hT.box 0 _ rfl
            have c1 := Box.at hT.box 1 _ rfl
            simp only [List.getElem_toArray, List.getElem_cons_zero, List.getElem_cons_succ] at c0 c1
            have cf := Box.soft hT.box
            have cl := Box.lt hT.box
            have z0 := Box.at hT.res 0 _ rfl
            have z1 := Box.at hT.res 1 _ rfl
            simp only [List.getElem_toArray, List.getElem_cons_zero, List.getElem_cons_succ] at z0 z1
            have zf := Box.soft hT.res
            have zl := Box.lt hT.res
            have HP := hide (hT.close (M := 100) (m0 := m) (by simp only [List.length_append, List.length_singleton]; omega) (by simp only; omega) (by omega))
            clear hT
            go_wp2_with fail
            refine bodyPost_ret (v := .agg #[.int .i64 (x.epoch), .slice (some ⟨g, 0, none⟩) (x.ids.length + 1) cap]) (by simp [results, Tryd.results40, go_sem, z0, z1]) rfl ?_
            exact unhide HP
          case og10a3_3 =>
            have nb3 : Below wD.heap.size wD (wD.alloc (.cells #[.int .i64 0, .int .i64 1, .int .i64 5, .int .i64 6] 2)) := (Below.refl _ _).alloc (Nat.le_refl _) _
            have hT3 := hT0.later nb3
            go_simp
            try go_wp2_with fail
            refine hK.out _ _ trivial (fun hHeld => ?_)
            clear hK K
            try simp only [Act.put, List.setIfInBounds_toArray, List.set_cons_zero, List.set_cons_succ]
            refine wpAnyH_ready (rs := [1, 4]) (by kernel_rfl) (by simp) ?_
            refine AllReadyH.cons (o := { dst := some 50, op := Go.Op.load 24 (Go.Operand.tmp 49), type := 24, pos := "l10_chain.go:155", after := #[{ on := 0, ground := Go.Ground.data }], guard := none }) rfl (fun K hK => ?og10a1_5) (AllReadyH.cons (o := { dst := some 53, op := Go.Op.call { callee := Go.Callee.value (Go.Operand.func 41), args := #[Go.Operand.tmp 51, Go.Operand.tmp 52], argTypes := #[64, 24] }, type := 2, pos := "l10_chain.go:155", after := #[{ on := 2, ground := Go.Ground.data }, { on := 3, ground := Go.Ground.data }], guard := none }) rfl (fun K hK => ?og10a4_5) (AllReadyH.nil))
            case og10a1_5 =>
              have y1 := Box.at hT3.box 1 _ rfl
              simp only [List.getElem_toArray, List.getElem_cons_zero, List.getElem_cons_succ] at y1
              have yl := Box.lt hT3.box
              go_simp
              try go_wp2_with fail
              refine hK.out _ _ trivial (fun hHeld => ?_)
              clear hK K
              try simp only [Act.put, List.setIfInBounds_toArray, List.set_cons_zero, List.set_cons_succ]
              refine wpAnyH_ready (rs := [4]) (by kernel_rfl) (by simp) ?_
              refine AllReadyH.cons (o := { dst := some 53, op := Go.Op.call { callee := Go.Callee.value (Go.Operand.func 41), args := #[Go.Operand.tmp 51, Go.Operand.tmp 52], argTypes := #[64, 24] }, type := 2, pos := "l10_chain.go:155", after := #[{ on := 2, ground := Go.Ground.data }, { on := 3, ground := Go.Ground.data }], guard := none }) rfl (fun K hK => ?_) AllReadyH.nil
              go_simp
              go_at_call 41
              refine (pick b (m3 + 1) wD.heap.size cv [0, 1, 5, 6] _ hT3.src hT3.code (by omega) (by simp) (by simp) (heap_alloc_new wD _) (by have := hT0.src.lt; omega)).mono ?_
              rintro e w4 ⟨p, rfl, hp, s4, c4, g4⟩
              have hpb : 0 ≤ p ∧ p ≤ 1000 := by
                simp only [List.mem_cons, List.not_mem_nil, or_false] at hp
                omega
              have hT4 := hT3.go g4 s4 c4
              try go_wp2_with fail
              refine hK.out _ _ trivial (fun hHeld => ?_)
              clear hK K
              try simp only [Act.put, List.setIfInBounds_toArray, List.set_cons_zero, List.set_cons_succ]
              refine wpAnyH_ready (rs := [5]) (by kernel_rfl) (by simp) ?_
              refine AllReadyH.cons (o := { dst := some 54, op := Go.Op.buildSlice 24 1 #[(0, Go.Operand.tmp 53)], type := 24, pos := "l10_chain.go:155", after := #[{ on := 4, ground := Go.Ground.data }], guard := none }) rfl (fun K hK => ?_) AllReadyH.nil
              have nb5 : Below w4.heap.size w4 (w4.alloc (.cells #[.int .i64 p] 2)) := (Below.refl _ _).alloc (Nat.le_refl _) _
              have hT5 := hT4.later nb5
              go_simp
              try go_wp2_with fail
              refine hK.out _ _ trivial (fun hHeld => ?_)
              clear hK K
              try simp only [Act.put, List.setIfInBounds_toArray, List.set_cons_zero, List.set_cons_succ]
              refine wpAnyH_ready (rs := [6]) (by kernel_rfl) (by simp) ?_
              refine AllReadyH.cons (o := { dst := some 55, op := Go.Op.call { callee := Go.Callee.builtin Go.Builtin.append, args := #[Go.Operand.tmp 50, Go.Operand.tmp 54], argTypes := #[24, 24] }, type := 24, pos := "l10_chain.go:155", after := #[{ on := 1, ground := Go.Ground.data }, { on := 5, ground := Go.Ground.data }, { on := 4, ground := Go.Ground.chain }], guard := none }) rfl (fun K hK => ?_) AllReadyH.nil
              refine step_append_int hT4.own p rfl _ _ rfl rfl rfl (by omega) (by have := hT4.size; have := hT4.box.lt; have := hT4.cw; omega) ?_
              intro g cap w5 hO5 hg5 hb5 hgl hz5
              have hbx := hT4.box.ext (⟨hg5.os, hg5.tape, hg5.output, hg5.size, fun k hk hn => hg5.block k hk (fun e => hn e.symm)⟩ : Ext (fun q => (Value.slice av x.ids.length cp).ownBlock = some q) w4 w5) (fun q => box_neC hT4.own hT4.box (by decide) _ q rfl)
              have u1 := Box.at hbx 1 _ rfl
              simp only [List.getElem_toArray, List.getElem_cons_zero, List.getElem_cons_succ] at u1
              have uf := Box.soft hbx
              have ul := Box.lt hbx
              refine hK.out _ _ trivial (fun hHeld => ?_)
              clear hK K
              try simp only [Act.put, List.setIfInBounds_toArray, List.set_cons_zero, List.set_cons_succ]
              refine wpAnyH_take (i := 7) (oi := { dst := some 56, op := Go.Op.fieldAddr 26 (Go.Operand.tmp 3) 1, type := 0, pos := "l10_chain.go:155", after := #[{ on := 0, ground := Go.Ground.phase }, { on := 1, ground := Go.Ground.phase }, { on := 2, ground := Go.Ground.phase }, { on := 3, ground := Go.Ground.phase }, { on := 4, ground := Go.Ground.phase }, { on := 5, ground := Go.Ground.phase }, { on := 6, ground := Go.Ground.phase }], guard := none }) (v := ?vg10a7_6) rfl (by kernel_rfl) (by kernel_rfl) (by kernel_rfl) (fun _ _ _ h => h) (Or.inl ⟨by rfl, ?hg10a7_6⟩) hHeld ?rg10a7_6
              case hg10a7_6 =>
                intro wS hSw
                (try dsimp only at hSw)
                go_simp
                try with_reducible rfl
              case rg10a7_6 =>
              simp only [Act.put, List.setIfInBounds_toArray, List.set_cons_zero, List.set_cons_succ]
              refine wpAnyH_ready (rs := [8]) (by kernel_rfl) (by simp) ?_
              refine AllReadyH.cons (o := { dst := none, op := Go.Op.store 24 (Go.Operand.tmp 56) (Go.Operand.tmp 55), type := 0, pos := "l10_chain.go:155", after := #[{ on := 7, ground := Go.Ground.data }, { on := 6, ground := Go.Ground.data }, { on := 6, ground := Go.Ground.chain }, { on := 0, ground := Go.Ground.phase }, { on := 1, ground := Go.Ground.phase }, { on := 2, ground := Go.Ground.phase }, { on := 3, ground := Go.Ground.phase }, { on := 4, ground := Go.Ground.phase }, { on := 5, ground := Go.Ground.phase }, { on := 6, ground := Go.Ground.phase }], guard := none }) rfl (fun K hK => ?_) AllReadyH.nil
              go_simp
              try go_wp2_with fail
              refine hK.out _ _ trivial (fun hHeld => ?_)
              clear hK K
              try simp only [Act.put, List.setIfInBounds_toArray, List.set_cons_zero, List.set_cons_succ]
              refine wpAnyH_done (by kernel_rfl) ?_ _
              refine NoPanic.normal ?_
              have hO6 : w5.ownsRow (w.heap.size + 1) 2 1 (.slice (some ⟨g, 0, none⟩) (x.ids.length + 1) cap) (x.ids ++ [p]).length ((x.ids ++ [p]).map (Value.int .i64)) := by
                rw [List.length_append, List.map_append]
                exact hO5
              have hT9 := hT4.append (x.ids ++ [p]) hg5 hO6 (fun z hz => by
                rcases List.mem_append.1 hz with hz | hz
                · exact hT4.ids z hz
                · rw [List.mem_singleton.1 hz]; omega)
              clear hHeld hT0 hT3 hT4 hT5 hO5 hO6 hg5 hb5 hbx u1 uf ul y1 yl nb3 nb5
              have HT9 := hide hT9
              clear hT9
              go_upto_region 16 with fail
              generalize w5.setCell ⟨C, 1, none⟩ (.slice (some ⟨g, 0, none⟩) (x.ids.length + 1) cap) = W9 at *
              have hT := unhide HT9
              clear HT9
              have c0 := Box.at hT.box 0 _ rfl
              have c1 := Box.at hT.box 1 _ rfl
              simp only [List.getElem_toArray, List.getElem_cons_zero, List.getElem_cons_succ] at c0 c1
              have cf := Box.soft hT.box
              have cl := Box.lt hT.box
              have z0 := Box.at hT.res 0 _ rfl
              have z1 := Box.at hT.res 1 _ rfl
              simp only [List.getElem_toArray, List.getElem_cons_zero, List.getElem_cons_succ] at z0 z1
              have zf := Box.soft hT.res
              have zl := Box.lt hT.res
              have HP := hide (hT.close (M := 100) (m0 := m) (by simp only [List.length_append, List.length_singleton]; omega) (by simp only; omega) (by omega))
              clear hT
              go_wp2_with fail
              refine bodyPost_ret (v := .agg #[.int .i64 (x.epoch), .slice (some ⟨g, 0, none⟩) (x.ids.length + 1) cap]) (by simp [results, Tryd.results40, go_sem, z0, z1]) rfl ?_
              exact unhide HP
            case og10a4_5 =>
              go_simp
              go_at_call 41
              refine (pick b (m3 + 1) wD.heap.size cv [0, 1, 5, 6] _ hT3.src hT3.code (by omega) (by simp) (by simp) (heap_alloc_new wD _) (by have := hT0.src.lt; omega)).mono ?_
              rintro e w4 ⟨p, rfl, hp, s4, c4, g4⟩
              have hpb : 0 ≤ p ∧ p ≤ 1000 := by
                simp only [List.mem_cons, List.not_mem_nil, or_false] at hp
                omega
              have hT4 := hT3.go g4 s4 c4
              try go_wp2_with fail
              refine hK.out _ _ trivial (fun hHeld => ?_)
              clear hK K
              try simp only [Act.put, List.setIfInBounds_toArray, List.set_cons_zero, List.set_cons_succ]
              refine wpAnyH_ready (rs := [1, 5]) (by kernel_rfl) (by simp) ?_
              refine AllReadyH.cons (o := { dst := some 50, op := Go.Op.load 24 (Go.Operand.tmp 49), type := 24, pos := "l10_chain.go:155", after := #[{ on := 0, ground := Go.Ground.data }], guard := none }) rfl (fun K hK => ?og10a1_7) (AllReadyH.cons (o := { dst := some 54, op := Go.Op.buildSlice 24 1 #[(0, Go.Operand.tmp 53)], type := 24, pos := "l10_chain.go:155", after := #[{ on := 4, ground := Go.Ground.data }], guard := none }) rfl (fun K hK => ?og10a5_7) (AllReadyH.nil))
              case og10a1_7 =>
                have y1 := Box.at hT4.box 1 _ rfl
                simp only [List.getElem_toArray, List.getElem_cons_zero, List.getElem_cons_succ] at y1
                have yl := Box.lt hT4.box
                go_simp
                try go_wp2_with fail
                refine hK.out _ _ trivial (fun hHeld => ?_)
                clear hK K
                try simp only [Act.put, List.setIfInBounds_toArray, List.set_cons_zero, List.set_cons_succ]
                refine wpAnyH_ready (rs := [5]) (by kernel_rfl) (by simp) ?_
                refine AllReadyH.cons (o := { dst := some 54, op := Go.Op.buildSlice 24 1 #[(0, Go.Operand.tmp 53)], type := 24, pos := "l10_chain.go:155", after := #[{ on := 4, ground := Go.Ground.data }], guard := none }) rfl (fun K hK => ?_) AllReadyH.nil
                have nb5 : Below w4.heap.size w4 (w4.alloc (.cells #[.int .i64 p] 2)) := (Below.refl _ _).alloc (Nat.le_refl _) _
                have hT5 := hT4.later nb5
                go_simp
                try go_wp2_with fail
                refine hK.out _ _ trivial (fun hHeld => ?_)
                clear hK K
                try simp only [Act.put, List.setIfInBounds_toArray, List.set_cons_zero, List.set_cons_succ]
                refine wpAnyH_ready (rs := [6]) (by kernel_rfl) (by simp) ?_
                refine AllReadyH.cons (o := { dst := some 55, op := Go.Op.call { callee := Go.Callee.builtin Go.Builtin.append, args := #[Go.Operand.tmp 50, Go.Operand.tmp 54], argTypes := #[24, 24] }, type := 24, pos := "l10_chain.go:155", after := #[{ on := 1, ground := Go.Ground.data }, { on := 5, ground := Go.Ground.data }, { on := 4, ground := Go.Ground.chain }], guard := none }) rfl (fun K hK => ?_) AllReadyH.nil
                refine step_append_int hT4.own p rfl _ _ rfl rfl rfl (by omega) (by have := hT4.size; have := hT4.box.lt; have := hT4.cw; omega) ?_
                intro g cap w5 hO5 hg5 hb5 hgl hz5
                have hbx := hT4.box.ext (⟨hg5.os, hg5.tape, hg5.output, hg5.size, fun k hk hn => hg5.block k hk (fun e => hn e.symm)⟩ : Ext (fun q => (Value.slice av x.ids.length cp).ownBlock = some q) w4 w5) (fun q => box_neC hT4.own hT4.box (by decide) _ q rfl)
                have u1 := Box.at hbx 1 _ rfl
                simp only [List.getElem_toArray, List.getElem_cons_zero, List.getElem_cons_succ] at u1
                have uf := Box.soft hbx
                have ul := Box.lt hbx
                refine hK.out _ _ trivial (fun hHeld => ?_)
                clear hK K
                try simp only [Act.put, List.setIfInBounds_toArray, List.set_cons_zero, List.set_cons_succ]
                refine wpAnyH_take (i := 7) (oi := { dst := some 56, op := Go.Op.fieldAddr 26 (Go.Operand.tmp 3) 1, type := 0, pos := "l10_chain.go:155", after := #[{ on := 0, ground := Go.Ground.phase }, { on := 1, ground := Go.Ground.phase }, { on := 2, ground := Go.Ground.phase }, { on := 3, ground := Go.Ground.phase }, { on := 4, ground := Go.Ground.phase }, { on := 5, ground := Go.Ground.phase }, { on := 6, ground := Go.Ground.phase }], guard := none }) (v := ?vg10a7_8) rfl (by kernel_rfl) (by kernel_rfl) (by kernel_rfl) (fun _ _ _ h => h) (Or.inl ⟨by rfl, ?hg10a7_8⟩) hHeld ?rg10a7_8
                case hg10a7_8 =>
                  intro wS hSw
                  (try dsimp only at hSw)
                  go_simp
                  try with_reducible rfl
                case rg10a7_8 =>
                simp only [Act.put, List.setIfInBounds_toArray, List.set_cons_zero, List.set_cons_succ]
                refine wpAnyH_ready (rs := [8]) (by kernel_rfl) (by simp) ?_
                refine AllReadyH.cons (o := { dst := none, op := Go.Op.store 24 (Go.Operand.tmp 56) (Go.Operand.tmp 55), type := 0, pos := "l10_chain.go:155", after := #[{ on := 7, ground := Go.Ground.data }, { on := 6, ground := Go.Ground.data }, { on := 6, ground := Go.Ground.chain }, { on := 0, ground := Go.Ground.phase }, { on := 1, ground := Go.Ground.phase }, { on := 2, ground := Go.Ground.phase }, { on := 3, ground := Go.Ground.phase }, { on := 4, ground := Go.Ground.phase }, { on := 5, ground := Go.Ground.phase }, { on := 6, ground := Go.Ground.phase }], guard := none }) rfl (fun K hK => ?_) AllReadyH.nil
                go_simp
                try go_wp2_with fail
                refine hK.out _ _ trivial (fun hHeld => ?_)
                clear hK K
                try simp only [Act.put, List.setIfInBounds_toArray, List.set_cons_zero, List.set_cons_succ]
                refine wpAnyH_done (by kernel_rfl) ?_ _
                refine NoPanic.normal ?_
                have hO6 : w5.ownsRow (w.heap.size + 1) 2 1 (.slice (some ⟨g, 0, none⟩) (x.ids.length + 1) cap) (x.ids ++ [p]).length ((x.ids ++ [p]).map (Value.int .i64)) := by
                  rw [List.length_append, List.map_append]
                  exact hO5
                have hT9 := hT4.append (x.ids ++ [p]) hg5 hO6 (fun z hz => by
                  rcases List.mem_append.1 hz with hz | hz
                  · exact hT4.ids z hz
                  · rw [List.mem_singleton.1 hz]; omega)
                clear hHeld hT0 hT3 hT4 hT5 hO5 hO6 hg5 hb5 hbx u1 uf ul y1 yl nb3 nb5
                have HT9 := hide hT9
                clear hT9
                go_upto_region 16 with fail
                generalize w5.setCell ⟨C, 1, none⟩ (.slice (some ⟨g, 0, none⟩) (x.ids.length + 1) cap) = W9 at *
                have hT := unhide HT9
                clear HT9
                have c0 := Box.at hT.box 0 _ rfl
                have c1 := Box.at hT.box 1 _ rfl
                simp only [List.getElem_toArray, List.getElem_cons_zero, List.getElem_cons_succ] at c0 c1
                have cf := Box.soft hT.box
                have cl := Box.lt hT.box
                have z0 := Box.at hT.res 0 _ rfl
                have z1 := Box.at hT.res 1 _ rfl
                simp only [List.getElem_toArray, List.getElem_cons_zero, List.getElem_cons_succ] at z0 z1
                have zf := Box.soft hT.res
                have zl := Box.lt hT.res
                have HP := hide (hT.close (M := 100) (m0 := m) (by simp only [List.length_append, List.length_singleton]; omega) (by simp only; omega) (by omega))
                clear hT
                go_wp2_with fail
                refine bodyPost_ret (v := .agg #[.int .i64 (x.epoch), .slice (some ⟨g, 0, none⟩) (x.ids.length + 1) cap]) (by simp [results, Tryd.results40, go_sem, z0, z1]) rfl ?_
                exact unhide HP
              case og10a5_7 =>
                have nb5 : Below w4.heap.size w4 (w4.alloc (.cells #[.int .i64 p] 2)) := (Below.refl _ _).alloc (Nat.le_refl _) _
                have hT5 := hT4.later nb5
                go_simp
                try go_wp2_with fail
                refine hK.out _ _ trivial (fun hHeld => ?_)
                clear hK K
                try simp only [Act.put, List.setIfInBounds_toArray, List.set_cons_zero, List.set_cons_succ]
                refine wpAnyH_ready (rs := [1]) (by kernel_rfl) (by simp) ?_
                refine AllReadyH.cons (o := { dst := some 50, op := Go.Op.load 24 (Go.Operand.tmp 49), type := 24, pos := "l10_chain.go:155", after := #[{ on := 0, ground := Go.Ground.data }], guard := none }) rfl (fun K hK => ?_) AllReadyH.nil
                have y1 := Box.at hT5.box 1 _ rfl
                simp only [List.getElem_toArray, List.getElem_cons_zero, List.getElem_cons_succ] at y1
                have yl := Box.lt hT5.box
                go_simp
                try go_wp2_with fail
                refine hK.out _ _ trivial (fun hHeld => ?_)
                clear hK K
                try simp only [Act.put, List.setIfInBounds_toArray, List.set_cons_zero, List.set_cons_succ]
                refine wpAnyH_ready (rs := [6]) (by kernel_rfl) (by simp) ?_
                refine AllReadyH.cons (o := { dst := some 55, op := Go.Op.call { callee := Go.Callee.builtin Go.Builtin.append, args := #[Go.Operand.tmp 50, Go.Operand.tmp 54], argTypes := #[24, 24] }, type := 24, pos := "l10_chain.go:155", after := #[{ on := 1, ground := Go.Ground.data }, { on := 5, ground := Go.Ground.data }, { on := 4, ground := Go.Ground.chain }], guard := none }) rfl (fun K hK => ?_) AllReadyH.nil
                refine step_append_int hT4.own p rfl _ _ rfl rfl rfl (by omega) (by have := hT4.size; have := hT4.box.lt; have := hT4.cw; omega) ?_
                intro g cap w5 hO5 hg5 hb5 hgl hz5
                have hbx := hT4.box.ext (⟨hg5.os, hg5.tape, hg5.output, hg5.size, fun k hk hn => hg5.block k hk (fun e => hn e.symm)⟩ : Ext (fun q => (Value.slice av x.ids.length cp).ownBlock = some q) w4 w5) (fun q => box_neC hT4.own hT4.box (by decide) _ q rfl)
                have u1 := Box.at hbx 1 _ rfl
                simp only [List.getElem_toArray, List.getElem_cons_zero, List.getElem_cons_succ] at u1
                have uf := Box.soft hbx
                have ul := Box.lt hbx
                refine hK.out _ _ trivial (fun hHeld => ?_)
                clear hK K
                try simp only [Act.put, List.setIfInBounds_toArray, List.set_cons_zero, List.set_cons_succ]
                refine wpAnyH_take (i := 7) (oi := { dst := some 56, op := Go.Op.fieldAddr 26 (Go.Operand.tmp 3) 1, type := 0, pos := "l10_chain.go:155", after := #[{ on := 0, ground := Go.Ground.phase }, { on := 1, ground := Go.Ground.phase }, { on := 2, ground := Go.Ground.phase }, { on := 3, ground := Go.Ground.phase }, { on := 4, ground := Go.Ground.phase }, { on := 5, ground := Go.Ground.phase }, { on := 6, ground := Go.Ground.phase }], guard := none }) (v := ?vg10a7_9) rfl (by kernel_rfl) (by kernel_rfl) (by kernel_rfl) (fun _ _ _ h => h) (Or.inl ⟨by rfl, ?hg10a7_9⟩) hHeld ?rg10a7_9
                case hg10a7_9 =>
                  intro wS hSw
                  (try dsimp only at hSw)
                  go_simp
                  try with_reducible rfl
                case rg10a7_9 =>
                simp only [Act.put, List.setIfInBounds_toArray, List.set_cons_zero, List.set_cons_succ]
                refine wpAnyH_ready (rs := [8]) (by kernel_rfl) (by simp) ?_
                refine AllReadyH.cons (o := { dst := none, op := Go.Op.store 24 (Go.Operand.tmp 56) (Go.Operand.tmp 55), type := 0, pos := "l10_chain.go:155", after := #[{ on := 7, ground := Go.Ground.data }, { on := 6, ground := Go.Ground.data }, { on := 6, ground := Go.Ground.chain }, { on := 0, ground := Go.Ground.phase }, { on := 1, ground := Go.Ground.phase }, { on := 2, ground := Go.Ground.phase }, { on := 3, ground := Go.Ground.phase }, { on := 4, ground := Go.Ground.phase }, { on := 5, ground := Go.Ground.phase }, { on := 6, ground := Go.Ground.phase }], guard := none }) rfl (fun K hK => ?_) AllReadyH.nil
                go_simp
                try go_wp2_with fail
                refine hK.out _ _ trivial (fun hHeld => ?_)
                clear hK K
                try simp only [Act.put, List.setIfInBounds_toArray, List.set_cons_zero, List.set_cons_succ]
                refine wpAnyH_done (by kernel_rfl) ?_ _
                refine NoPanic.normal ?_
                have hO6 : w5.ownsRow (w.heap.size + 1) 2 1 (.slice (some ⟨g, 0, none⟩) (x.ids.length + 1) cap) (x.ids ++ [p]).length ((x.ids ++ [p]).map (Value.int .i64)) := by
                  rw [List.length_append, List.map_append]
                  exact hO5
                have hT9 := hT4.append (x.ids ++ [p]) hg5 hO6 (fun z hz => by
                  rcases List.mem_append.1 hz with hz | hz
                  · exact hT4.ids z hz
                  · rw [List.mem_singleton.1 hz]; omega)
                clear hHeld hT0 hT3 hT4 hT5 hO5 hO6 hg5 hb5 hbx u1 uf ul y1 yl nb3 nb5
                have HT9 := hide hT9
                clear hT9
                go_upto_region 16 with fail
                generalize w5.setCell ⟨C, 1, none⟩ (.slice (some ⟨g, 0, none⟩) (x.ids.length + 1) cap) = W9 at *
                have hT := unhide HT9
                clear HT9
                have c0 := Box.at hT.box 0 _ rfl
                have c1 := Box.at hT.box 1 _ rfl
                simp only [List.getElem_toArray, List.getElem_cons_zero, List.getElem_cons_succ] at c0 c1
                have cf := Box.soft hT.box
                have cl := Box.lt hT.box
                have z0 := Box.at hT.res 0 _ rfl
                have z1 := Box.at hT.res 1 _ rfl
                simp only [List.getElem_toArray, List.getElem_cons_zero, List.getElem_cons_succ] at z0 z1
                have zf := Box.soft hT.res
                have zl := Box.lt hT.res
                have HP := hide (hT.close (M := 100) (m0 := m) (by simp only [List.length_append, List.length_singleton]; omega) (by simp only; omega) (by omega))
                clear hT
                go_wp2_with fail
                refine bodyPost_ret (v := .agg #[.int .i64 (x.epoch), .slice (some ⟨g, 0, none⟩) (x.ids.length + 1) cap]) (by simp [results, Tryd.results40, go_sem, z0, z1]) rfl ?_
                exact unhide HP
        · have hTB := unhide HT
          have y1 := Box.at hTB.box 1 _ rfl
          simp only [List.getElem_toArray, List.getElem_cons_zero, List.getElem_cons_succ] at y1
          have yf := Box.soft hTB.box
          have yl := Box.lt hTB.box
          have HTC := hide (hTB.putV [] (World.ownsRow_nil _ _ _ _) (by simp))
          clear hTB HT
          go_upto_region 16 with fail
          clear y1 yf yl
          generalize w9.setCell ⟨C, 1, none⟩ (.slice none 0 0) = W9 at *
          have hT := unhide HTC
          clear HTC
          have c0 := Box.at hT.box 0 _ rfl
          have c1 := Box.at hT.box 1 _ rfl
          simp only [List.getElem_toArray, List.getElem_cons_zero, List.getElem_cons_succ] at c0 c1
          have cf := Box.soft hT.box
          have cl := Box.lt hT.box
          have z0 := Box.at hT.res 0 _ rfl
          have z1 := Box.at hT.res 1 _ rfl
          simp only [List.getElem_toArray, List.getElem_cons_zero, List.getElem_cons_succ] at z0 z1
          have zf := Box.soft hT.res
          have zl := Box.lt hT.res
          have HP := hide (hT.close (M := 100) (m0 := m) (by simp) (by simp only; omega) (by omega))
          clear hT
          go_wp2_with fail
          refine bodyPost_ret (v := .agg #[.int .i64 (x.epoch), .slice none 0 0]) (by simp [results, Tryd.results40, go_sem, z0, z1]) rfl ?_
          exact unhide HP
        · have dq0 : ((q : Int) == 0) = false := by rw [beq_eq_false_iff_ne]; omega
          have dq1 : ((q : Int) == 1) = false := by rw [beq_eq_false_iff_ne]; omega
          have dq2 : ((q : Int) == 2) = false := by rw [beq_eq_false_iff_ne]; omega
          have hT := unhide HT
          clear HT
          have c0 := Box.at hT.box 0 _ rfl
          have c1 := Box.at hT.box 1 _ rfl
          simp only [List.getElem_toArray, List.getElem_cons_zero, List.getElem_cons_succ] at c0 c1
          have cf := Box.soft hT.box
          have cl := Box.lt hT.box
          have z0 := Box.at hT.res 0 _ rfl
          have z1 := Box.at hT.res 1 _ rfl
          simp only [List.getElem_toArray, List.getElem_cons_zero, List.getElem_cons_succ] at z0 z1
          have zf := Box.soft hT.res
          have zl := Box.lt hT.res
          have HP := hide (hT.close (M := 100) (m0 := m) (by omega) (by omega) (by omega))
          clear hT
          go_wp2_with fail
          refine bodyPost_ret (v := .agg #[.int .i64 (x.epoch), .slice av x.ids.length cp]) (by simp [results, Tryd.results40, go_sem, z0, z1]) rfl ?_
          exact unhide HP
      · obtain rfl : k = 0 := by omega
        clear hst hi
        have L9 := hide (next b m3 cv 14 wr (unhide HST).src (unhide HST).code (by omega) (by omega) (by omega))
        go_wp2_with fail
        refine (unhide L9).mono ?_
        rintro e w9 ⟨q, rfl, hq9, s9, c9, g9⟩
        have HT := hide ((unhide HST).go g9 s9 c9)
        clear L9 s9 c9 g9 HST
        rcases (show q = 0 ∨ q = 1 ∨ q = 2 ∨ 3 ≤ q by omega) with rfl | rfl | rfl | h3
        · have nbA : Below w9.heap.size w9 (w9.alloc (.cells #[.int .i64 0, .int .i64 999, .int .i64 1000] 2)) := (Below.refl _ _).alloc (Nat.le_refl _) _
          have hTA := (unhide HT).later nbA
          have L10 := hide (pick b (m3 + 1) w9.heap.size cv [0, 999, 1000] _ hTA.src hTA.code (by omega) (by simp) (by simp) (heap_alloc_new w9 _) (by have := (unhide HT).src.lt; omega))
          have HTA := hide hTA
          clear hTA nbA HT
          go_wp2_with fail
          generalize w9.alloc (.cells #[.int .i64 0, .int .i64 999, .int .i64 1000] 2) = WA at *
          refine (unhide L10).mono ?_
          rintro e w10 ⟨p, rfl, hp, s10, c10, g10⟩
          have hpb : 0 ≤ p ∧ p ≤ 1000 := by
            simp only [List.mem_cons, List.not_mem_nil, or_false] at hp
            omega
          have hTB := (unhide HTA).go g10 s10 c10
          have y0 := Box.at hTB.box 0 _ rfl
          simp only [List.getElem_toArray, List.getElem_cons_zero] at y0
          have yf := Box.soft hTB.box
          have yl := Box.lt hTB.box
          have HTC := hide (hTB.putE p)
          clear hTB HTA L10 s10 c10 g10 hp
          go_upto_region 16 with fail
          clear y0 yf yl
          generalize w10.setCell ⟨C, 0, none⟩ (.int .i64 p) = W9 at *
          have hT := unhide HTC
          clear HTC
          have c0 := Box.at hT.box 0 _ rfl
          have c1 := Box.at hT.box 1 _ rfl
          simp only [List.getElem_toArray, List.getElem_cons_zero, List.getElem_cons_succ] at c0 c1
          have cf := Box.soft hT.box
          have cl := Box.lt hT.box
          have z0 := Box.at hT.res 0 _ rfl
          have z1 := Box.at hT.res 1 _ rfl
          simp only [List.getElem_toArray, List.getElem_cons_zero, List.getElem_cons_succ] at z0 z1
          have zf := Box.soft hT.res
          have zl := Box.lt hT.res
          have HP := hide (hT.close (M := 100) (m0 := m) (by simp only; omega) (by simp only; omega) (by omega))
          clear hT
          go_wp2_with fail
          refine bodyPost_ret (v := .agg #[.int .i64 (p), .slice av x.ids.length cp]) (by simp [results, Tryd.results40, go_sem, z0, z1]) rfl ?_
          exact unhide HP
        · have hT0 := (unhide HT).drew
          clear HT
          go_upto_region 13 with fail
          refine wp_region_noPanic ?_
          refine wp_region_held_drew (S := fun _ => True) (by kernel_rfl) trivial (fun hHeld => ?_)
          generalize w9.drew = wD at hHeld hT0 ⊢
          refine wpAnyH_take (i := 0) (oi := { dst := some 49, op := Go.Op.fieldAddr 26 (Go.Operand.tmp 3) 1, type := 0, pos := "l10_chain.go:155", after := #[], guard := none }) (v := ?vg10b0_1) rfl (by kernel_rfl) (by kernel_rfl) (by kernel_rfl) (fun _ _ _ h => h) (Or.inl ⟨by rfl, ?hg10b0_1⟩) hHeld ?rg10b0_1
          case hg10b0_1 =>
            intro wS hSw
            (try dsimp only at hSw)
            go_simp
            try with_reducible rfl
          case rg10b0_1 =>
          simp only [Act.put, List.setIfInBounds_toArray, List.set_cons_zero, List.set_cons_succ]
          refine wpAnyH_take (i := 2) (oi := { dst := some 51, op := Go.Op.move (Go.Operand.tmp 0), type := 64, pos := "l10_chain.go:155", after := #[], guard := none }) (v := ?vg10b2_2) rfl (by kernel_rfl) (by kernel_rfl) (by kernel_rfl) (fun _ _ _ h => h) (Or.inl ⟨by rfl, ?hg10b2_2⟩) hHeld ?rg10b2_2
          case hg10b2_2 =>
            intro wS hSw
            (try dsimp only at hSw)
            go_simp
            try with_reducible rfl
          case rg10b2_2 =>
          simp only [Act.put, List.setIfInBounds_toArray, List.set_cons_zero, List.set_cons_succ]
          refine wpAnyH_ready (rs := [1, 3]) (by kernel_rfl) (by simp) ?_
          refine AllReadyH.cons (o := { dst := some 50, op := Go.Op.load 24 (Go.Operand.tmp 49), type := 24, pos := "l10_chain.go:155", after := #[{ on := 0, ground := Go.Ground.data }], guard := none }) rfl (fun K hK => ?og10b1_3) (AllReadyH.cons (o := { dst := some 52, op := Go.Op.buildSlice 24 4 #[(0, Go.Operand.const (Go.Value.int Go.IntKind.i64 0)), (1, Go.Operand.const (Go.Value.int Go.IntKind.i64 1)), (2, Go.Operand.const (Go.Value.int Go.IntKind.i64 5)), (3, Go.Operand.const (Go.Value.int Go.IntKind.i64 6))], type := 24, pos := "l10_chain.go:155", after := #[], guard := none }) rfl (fun K hK => ?og10b3_3) (AllReadyH.nil))
          case og10b1_3 =>
            have y1 := Box.at hT0.box 1 _ rfl
            simp only [List.getElem_toArray, List.getElem_cons_zero, List.getElem_cons_succ] at y1
            have yl := Box.lt hT0.box
            go_simp
            try go_wp2_with fail
            refine hK.out _ _ trivial (fun hHeld => ?_)
            clear hK K
            try simp only [Act.put, List.setIfInBounds_toArray, List.set_cons_zero, List.set_cons_succ]
            refine wpAnyH_ready (rs := [3]) (by kernel_rfl) (by simp) ?_
            refine AllReadyH.cons (o := { dst := some 52, op := Go.Op.buildSlice 24 4 #[(0, Go.Operand.const (Go.Value.int Go.IntKind.i64 0)), (1, Go.Operand.const (Go.Value.int Go.IntKind.i64 1)), (2, Go.Operand.const (Go.Value.int Go.IntKind.i64 5)), (3, Go.Operand.const (Go.Value.int Go.IntKind.i64 6))], type := 24, pos := "l10_chain.go:155", after := #[], guard := none }) rfl (fun K hK => ?_) AllReadyH.nil
            have nb3 : Below wD.heap.size wD (wD.alloc (.cells #[.int .i64 0, .int .i64 1, .int .i64 5, .int .i64 6] 2)) := (Below.refl _ _).alloc (Nat.le_refl _) _
            have hT3 := hT0.later nb3
            go_simp
            try go_wp2_with fail
            refine hK.out _ _ trivial (fun hHeld => ?_)
            clear hK K
            try simp only [Act.put, List.setIfInBounds_toArray, List.set_cons_zero, List.set_cons_succ]
            refine wpAnyH_ready (rs := [4]) (by kernel_rfl) (by simp) ?_
            refine AllReadyH.cons (o := { dst := some 53, op := Go.Op.call { callee := Go.Callee.value (Go.Operand.func 41), args := #[Go.Operand.tmp 51, Go.Operand.tmp 52], argTypes := #[64, 24] }, type := 2, pos := "l10_chain.go:155", after := #[{ on := 2, ground := Go.Ground.data }, { on := 3, ground := Go.Ground.data }], guard := none }) rfl (fun K hK => ?_) AllReadyH.nil
            go_simp
            go_at_call 41
            refine (pick b (m3 + 1) wD.heap.size cv [0, 1, 5, 6] _ hT3.src hT3.code (by omega) (by simp) (by simp) (heap_alloc_new wD _) (by have := hT0.src.lt; omega)).mono ?_
            rintro e w4 ⟨p, rfl, hp, s4, c4, g4⟩
            have hpb : 0 ≤ p ∧ p ≤ 1000 := by
              simp only [List.mem_cons, List.not_mem_nil, or_false] at hp
              omega
            have hT4 := hT3.go g4 s4 c4
            try go_wp2_with fail
            refine hK.out _ _ trivial (fun hHeld => ?_)
            clear hK K
            try simp only [Act.put, List.setIfInBounds_toArray, List.set_cons_zero, List.set_cons_succ]
            refine wpAnyH_ready (rs := [5]) (by kernel_rfl) (by simp) ?_
            refine AllReadyH.cons (o := { dst := some 54, op := Go.Op.buildSlice 24 1 #[(0, Go.Operand.tmp 53)], type := 24, pos := "l10_chain.go:155", after := #[{ on := 4, ground := Go.Ground.data }], guard := none }) rfl (fun K hK => ?_) AllReadyH.nil
            have nb5 : Below w4.heap.size w4 (w4.alloc (.cells #[.int .i64 p] 2)) := (Below.refl _ _).alloc (Nat.le_refl _) _
            have hT5 := hT4.later nb5
            go_simp
            try go_wp2_with fail
            refine hK.out _ _ trivial (fun hHeld => ?_)
            clear hK K
            try simp only [Act.put, List.setIfInBounds_toArray, List.set_cons_zero, List.set_cons_succ]
            refine wpAnyH_ready (rs := [6]) (by kernel_rfl) (by simp) ?_
            refine AllReadyH.cons (o := { dst := some 55, op := Go.Op.call { callee := Go.Callee.builtin Go.Builtin.append, args := #[Go.Operand.tmp 50, Go.Operand.tmp 54], argTypes := #[24, 24] }, type := 24, pos := "l10_chain.go:155", after := #[{ on := 1, ground := Go.Ground.data }, { on := 5, ground := Go.Ground.data }, { on := 4, ground := Go.Ground.chain }], guard := none }) rfl (fun K hK => ?_) AllReadyH.nil
            refine step_append_int hT4.own p rfl _ _ rfl rfl rfl (by omega) (by have := hT4.size; have := hT4.box.lt; have := hT4.cw; omega) ?_
            intro g cap w5 hO5 hg5 hb5 hgl hz5
            have hbx := hT4.box.ext (⟨hg5.os, hg5.tape, hg5.output, hg5.size, fun k hk hn => hg5.block k hk (fun e => hn e.symm)⟩ : Ext (fun q => (Value.slice av x.ids.length cp).ownBlock = some q) w4 w5) (fun q => box_neC hT4.own hT4.box (by decide) _ q rfl)
            have u1 := Box.at hbx 1 _ rfl
            simp only [List.getElem_toArray, List.getElem_cons_zero, List.getElem_cons_succ] at u1
            have uf := Box.soft hbx
            have ul := Box.lt hbx
            refine hK.out _ _ trivial (fun hHeld => ?_)
            clear hK K
            try simp only [Act.put, List.setIfInBounds_toArray, List.set_cons_zero, List.set_cons_succ]
            refine wpAnyH_take (i := 7) (oi := { dst := some 56, op := Go.Op.fieldAddr 26 (Go.Operand.tmp 3) 1, type := 0, pos := "l10_chain.go:155", after := #[{ on := 0, ground := Go.Ground.phase }, { on := 1, ground := Go.Ground.phase }, { on := 2, ground := Go.Ground.phase }, { on := 3, ground := Go.Ground.phase }, { on := 4, ground := Go.Ground.phase }, { on := 5, ground := Go.Ground.phase }, { on := 6, ground := Go.Ground.phase }], guard := none }) (v := ?vg10b7_4) rfl (by kernel_rfl) (by kernel_rfl) (by kernel_rfl) (fun _ _ _ h => h) (Or.inl ⟨by rfl, ?hg10b7_4⟩) hHeld ?rg10b7_4
            case hg10b7_4 =>
              intro wS hSw
              (try dsimp only at hSw)
              go_simp
              try with_reducible rfl
            case rg10b7_4 =>
            simp only [Act.put, List.setIfInBounds_toArray, List.set_cons_zero, List.set_cons_succ]
            refine wpAnyH_ready (rs := [8]) (by kernel_rfl) (by simp) ?_
            refine AllReadyH.cons (o := { dst := none, op := Go.Op.store 24 (Go.Operand.tmp 56) (Go.Operand.tmp 55), type := 0, pos := "l10_chain.go:155", after := #[{ on := 7, ground := Go.Ground.data }, { on := 6, ground := Go.Ground.data }, { on := 6, ground := Go.Ground.chain }, { on := 0, ground := Go.Ground.phase }, { on := 1, ground := Go.Ground.phase }, { on := 2, ground := Go.Ground.phase }, { on := 3, ground := Go.Ground.phase }, { on := 4, ground := Go.Ground.phase }, { on := 5, ground := Go.Ground.phase }, { on := 6, ground := Go.Ground.phase }], guard := none }) rfl (fun K hK => ?_) AllReadyH.nil
            go_simp
            try go_wp2_with fail
            refine hK.out _ _ trivial (fun hHeld => ?_)
            clear hK K
            try simp only [Act.put, List.setIfInBounds_toArray, List.set_cons_zero, List.set_cons_succ]
            refine wpAnyH_done (by kernel_rfl) ?_ _
            refine NoPanic.normal ?_
            have hO6 : w5.ownsRow (w.heap.size + 1) 2 1 (.slice (some ⟨g, 0, none⟩) (x.ids.length + 1) cap) (x.ids ++ [p]).length ((x.ids ++ [p]).map (Value.int .i64)) := by
              rw [List.length_append, List.map_append]
              exact hO5
            have hT9 := hT4.append (x.ids ++ [p]) hg5 hO6 (fun z hz => by
              rcases List.mem_append.1 hz with hz | hz
              · exact hT4.ids z hz
              · rw [List.mem_singleton.1 hz]; omega)
            clear hHeld hT0 hT3 hT4 hT5 hO5 hO6 hg5 hb5 hbx u1 uf ul y1 yl nb3 nb5
            have HT9 := hide hT9
            clear hT9
            go_upto_region 16 with fail
            generalize w5.setCell ⟨C, 1, none⟩ (.slice (some ⟨g, 0, none⟩) (x.ids.length + 1) cap) = W9 at *
            have hT := unhide HT9
            clear HT9
            have c0 := Box.at hT.box 0 _ rfl
            have c1 := Box.at hT.box 1 _ rfl
            simp only [List.getElem_toArray, List.getElem_cons_zero, List.getElem_cons_succ] at c0 c1
            have cf := Box.soft hT.box
            have cl := Box.lt hT.box
            have z0 := Box.at hT.res 0 _ rfl
            have z1 := Box.at hT.res 1 _ rfl
            simp only [List.getElem_toArray, List.getElem_cons_zero, List.getElem_cons_succ] at z0 z1
            have zf := Box.soft hT.res
            have zl := Box.lt hT.res
            have HP := hide (hT.close (M := 100) (m0 := m) (by simp only [List.length_append, List.length_singleton]; omega) (by simp only; omega) (by omega))
            clear hT
            go_wp2_with fail
            refine bodyPost_ret (v := .agg #[.int .i64 (x.epoch), .slice (some ⟨g, 0, none⟩) (x.ids.length + 1) cap]) (by simp [results, Tryd.results40, go_sem, z0, z1]) rfl ?_
            exact unhide HP
          case og10b3_3 =>
            have nb3 : Below wD.heap.size wD (wD.alloc (.cells #[.int .i64 0, .int .i64 1, .int .i64 5, .int .i64 6] 2)) := (Below.refl _ _).alloc (Nat.le_refl _) _
            have hT3 := hT0.later nb3
            go_simp
            try go_wp2_with fail
            refine hK.out _ _ trivial (fun hHeld => ?_)
            clear hK K
            try simp only [Act.put, List.setIfInBounds_toArray, List.set_cons_zero, List.set_cons_succ]
            refine wpAnyH_ready (rs := [1, 4]) (by kernel_rfl) (by simp) ?_
            refine AllReadyH.cons (o := { dst := some 50, op := Go.Op.load 24 (Go.Operand.tmp 49), type := 24, pos := "l10_chain.go:155", after := #[{ on := 0, ground := Go.Ground.data }], guard := none }) rfl (fun K hK => ?og10b1_5) (AllReadyH.cons (o := { dst := some 53, op := Go.Op.call { callee := Go.Callee.value (Go.Operand.func 41), args := #[Go.Operand.tmp 51, Go.Operand.tmp 52], argTypes := #[64, 24] }, type := 2, pos := "l10_chain.go:155", after := #[{ on := 2, ground := Go.Ground.data }, { on := 3, ground := Go.Ground.data }], guard := none }) rfl (fun K hK => ?og10b4_5) (AllReadyH.nil))
            case og10b1_5 =>
              have y1 := Box.at hT3.box 1 _ rfl
              simp only [List.getElem_toArray, List.getElem_cons_zero, List.getElem_cons_succ] at y1
              have yl := Box.lt hT3.box
              go_simp
              try go_wp2_with fail
              refine hK.out _ _ trivial (fun hHeld => ?_)
              clear hK K
              try simp only [Act.put, List.setIfInBounds_toArray, List.set_cons_zero, List.set_cons_succ]
              refine wpAnyH_ready (rs := [4]) (by kernel_rfl) (by simp) ?_
              refine AllReadyH.cons (o := { dst := some 53, op := Go.Op.call { callee := Go.Callee.value (Go.Operand.func 41), args := #[Go.Operand.tmp 51, Go.Operand.tmp 52], argTypes := #[64, 24] }, type := 2, pos := "l10_chain.go:155", after := #[{ on := 2, ground := Go.Ground.data }, { on := 3, ground := Go.Ground.data }], guard := none }) rfl (fun K hK => ?_) AllReadyH.nil
              go_simp
              go_at_call 41
              refine (pick b (m3 + 1) wD.heap.size cv [0, 1, 5, 6] _ hT3.src hT3.code (by omega) (by simp) (by simp) (heap_alloc_new wD _) (by have := hT0.src.lt; omega)).mono ?_
              rintro e w4 ⟨p, rfl, hp, s4, c4, g4⟩
              have hpb : 0 ≤ p ∧ p ≤ 1000 := by
                simp only [List.mem_cons, List.not_mem_nil, or_false] at hp
                omega
              have hT4 := hT3.go g4 s4 c4
              try go_wp2_with fail
              refine hK.out _ _ trivial (fun hHeld => ?_)
              clear hK K
              try simp only [Act.put, List.setIfInBounds_toArray, List.set_cons_zero, List.set_cons_succ]
              refine wpAnyH_ready (rs := [5]) (by kernel_rfl) (by simp) ?_
              refine AllReadyH.cons (o := { dst := some 54, op := Go.Op.buildSlice 24 1 #[(0, Go.Operand.tmp 53)], type := 24, pos := "l10_chain.go:155", after := #[{ on := 4, ground := Go.Ground.data }], guard := none }) rfl (fun K hK => ?_) AllReadyH.nil
              have nb5 : Below w4.heap.size w4 (w4.alloc (.cells #[.int .i64 p] 2)) := (Below.refl _ _).alloc (Nat.le_refl _) _
              have hT5 := hT4.later nb5
              go_simp
              try go_wp2_with fail
              refine hK.out _ _ trivial (fun hHeld => ?_)
              clear hK K
              try simp only [Act.put, List.setIfInBounds_toArray, List.set_cons_zero, List.set_cons_succ]
              refine wpAnyH_ready (rs := [6]) (by kernel_rfl) (by simp) ?_
              refine AllReadyH.cons (o := { dst := some 55, op := Go.Op.call { callee := Go.Callee.builtin Go.Builtin.append, args := #[Go.Operand.tmp 50, Go.Operand.tmp 54], argTypes := #[24, 24] }, type := 24, pos := "l10_chain.go:155", after := #[{ on := 1, ground := Go.Ground.data }, { on := 5, ground := Go.Ground.data }, { on := 4, ground := Go.Ground.chain }], guard := none }) rfl (fun K hK => ?_) AllReadyH.nil
              refine step_append_int hT4.own p rfl _ _ rfl rfl rfl (by omega) (by have := hT4.size; have := hT4.box.lt; have := hT4.cw; omega) ?_
              intro g cap w5 hO5 hg5 hb5 hgl hz5
              have hbx := hT4.box.ext (⟨hg5.os, hg5.tape, hg5.output, hg5.size, fun k hk hn => hg5.block k hk (fun e => hn e.symm)⟩ : Ext (fun q => (Value.slice av x.ids.length cp).ownBlock = some q) w4 w5) (fun q => box_neC hT4.own hT4.box (by decide) _ q rfl)
              have u1 := Box.at hbx 1 _ rfl
              simp only [List.getElem_toArray, List.getElem_cons_zero, List.getElem_cons_succ] at u1
              have uf := Box.soft hbx
              have ul := Box.lt hbx
              refine hK.out _ _ trivial (fun hHeld => ?_)
              clear hK K
              try simp only [Act.put, List.setIfInBounds_toArray, List.set_cons_zero, List.set_cons_succ]
              refine wpAnyH_take (i := 7) (oi := { dst := some 56, op := Go.Op.fieldAddr 26 (Go.Operand.tmp 3) 1, type := 0, pos := "l10_chain.go:155", after := #[{ on := 0, ground := Go.Ground.phase }, { on := 1, ground := Go.Ground.phase }, { on := 2, ground := Go.Ground.phase }, { on := 3, ground := Go.Ground.phase }, { on := 4, ground := Go.Ground.phase }, { on := 5, ground := Go.Ground.phase }, { on := 6, ground := Go.Ground.phase }], guard := none }) (v := ?vg10b7_6) rfl (by kernel_rfl) (by kernel_rfl) (by kernel_rfl) (fun _ _ _ h => h) (Or.inl ⟨by rfl, ?hg10b7_6⟩) hHeld ?rg10b7_6
              case hg10b7_6 =>
                intro wS hSw
                (try dsimp only at hSw)
                go_simp
                try with_reducible rfl
              case rg10b7_6 =>
              simp only [Act.put, List.setIfInBounds_toArray, List.set_cons_zero, List.set_cons_succ]
              refine wpAnyH_ready (rs := [8]) (by kernel_rfl) (by simp) ?_
              refine AllReadyH.cons (o := { dst := none, op := Go.Op.store 24 (Go.Operand.tmp 56) (Go.Operand.tmp 55), type := 0, pos := "l10_chain.go:155", after := #[{ on := 7, ground := Go.Ground.data }, { on := 6, ground := Go.Ground.data }, { on := 6, ground := Go.Ground.chain }, { on := 0, ground := Go.Ground.phase }, { on := 1, ground := Go.Ground.phase }, { on := 2, ground := Go.Ground.phase }, { on := 3, ground := Go.Ground.phase }, { on := 4, ground := Go.Ground.phase }, { on := 5, ground := Go.Ground.phase }, { on := 6, ground := Go.Ground.phase }], guard := none }) rfl (fun K hK => ?_) AllReadyH.nil
              go_simp
              try go_wp2_with fail
              refine hK.out _ _ trivial (fun hHeld => ?_)
              clear hK K
              try simp only [Act.put, List.setIfInBounds_toArray, List.set_cons_zero, List.set_cons_succ]
              refine wpAnyH_done (by kernel_rfl) ?_ _
              refine NoPanic.normal ?_
              have hO6 : w5.ownsRow (w.heap.size + 1) 2 1 (.slice (some ⟨g, 0, none⟩) (x.ids.length + 1) cap) (x.ids ++ [p]).length ((x.ids ++ [p]).map (Value.int .i64)) := by
                rw [List.length_append, List.map_append]
                exact hO5
              have hT9 := hT4.append (x.ids ++ [p]) hg5 hO6 (fun z hz => by
                rcases List.mem_append.1 hz with hz | hz
                · exact hT4.ids z hz
                · rw [List.mem_singleton.1 hz]; omega)
              clear hHeld hT0 hT3 hT4 hT5 hO5 hO6 hg5 hb5 hbx u1 uf ul y1 yl nb3 nb5
              have HT9 := hide hT9
              clear hT9
              go_upto_region 16 with fail
              generalize w5.setCell ⟨C, 1, none⟩ (.slice (some ⟨g, 0, none⟩) (x.ids.length + 1) cap) = W9 at *
              have hT := unhide HT9
              clear HT9
              have c0 := Box.at hT.box 0 _ rfl
              have c1 := Box.at hT.box 1 _ rfl
              simp only [List.getElem_toArray, List.getElem_cons_zero, List.getElem_cons_succ] at c0 c1
              have cf := Box.soft hT.box
              have cl := Box.lt hT.box
              have z0 := Box.at hT.res 0 _ rfl
              have z1 := Box.at hT.res 1 _ rfl
              simp only [List.getElem_toArray, List.getElem_cons_zero, List.getElem_cons_succ] at z0 z1
              have zf := Box.soft hT.res
              have zl := Box.lt hT.res
              have HP := hide (hT.close (M := 100) (m0 := m) (by simp only [List.length_append, List.length_singleton]; omega) (by simp only; omega) (by omega))
              clear hT
              go_wp2_with fail
              refine bodyPost_ret (v := .agg #[.int .i64 (x.epoch), .slice (some ⟨g, 0, none⟩) (x.ids.length + 1) cap]) (by simp [results, Tryd.results40, go_sem, z0, z1]) rfl ?_
              exact unhide HP
            case og10b4_5 =>
              go_simp
              go_at_call 41
              refine (pick b (m3 + 1) wD.heap.size cv [0, 1, 5, 6] _ hT3.src hT3.code (by omega) (by simp) (by simp) (heap_alloc_new wD _) (by have := hT0.src.lt; omega)).mono ?_
              rintro e w4 ⟨p, rfl, hp, s4, c4, g4⟩
              have hpb : 0 ≤ p ∧ p ≤ 1000 := by
                simp only [List.mem_cons, List.not_mem_nil, or_false] at hp
                omega
              have hT4 := hT3.go g4 s4 c4
              try go_wp2_with fail
              refine hK.out _ _ trivial (fun hHeld => ?_)
              clear hK K
              try simp only [Act.put, List.setIfInBounds_toArray, List.set_cons_zero, List.set_cons_succ]
              refine wpAnyH_ready (rs := [1, 5]) (by kernel_rfl) (by simp) ?_
              refine AllReadyH.cons (o := { dst := some 50, op := Go.Op.load 24 (Go.Operand.tmp 49), type := 24, pos := "l10_chain.go:155", after := #[{ on := 0, ground := Go.Ground.data }], guard := none }) rfl (fun K hK => ?og10b1_7) (AllReadyH.cons (o := { dst := some 54, op := Go.Op.buildSlice 24 1 #[(0, Go.Operand.tmp 53)], type := 24, pos := "l10_chain.go:155", after := #[{ on := 4, ground := Go.Ground.data }], guard := none }) rfl (fun K hK => ?og10b5_7) (AllReadyH.nil))
              case og10b1_7 =>
                have y1 := Box.at hT4.box 1 _ rfl
                simp only [List.getElem_toArray, List.getElem_cons_zero, List.getElem_cons_succ] at y1
                have yl := Box.lt hT4.box
                go_simp
                try go_wp2_with fail
                refine hK.out _ _ trivial (fun hHeld => ?_)
                clear hK K
                try simp only [Act.put, List.setIfInBounds_toArray, List.set_cons_zero, List.set_cons_succ]
                refine wpAnyH_ready (rs := [5]) (by kernel_rfl) (by simp) ?_
                refine AllReadyH.cons (o := { dst := some 54, op := Go.Op.buildSlice 24 1 #[(0, Go.Operand.tmp 53)], type := 24, pos := "l10_chain.go:155", after := #[{ on := 4, ground := Go.Ground.data }], guard := none }) rfl (fun K hK => ?_) AllReadyH.nil
                have nb5 : Below w4.heap.size w4 (w4.alloc (.cells #[.int .i64 p] 2)) := (Below.refl _ _).alloc (Nat.le_refl _) _
                have hT5 := hT4.later nb5
                go_simp
                try go_wp2_with fail
                refine hK.out _ _ trivial (fun hHeld => ?_)
                clear hK K
                try simp only [Act.put, List.setIfInBounds_toArray, List.set_cons_zero, List.set_cons_succ]
                refine wpAnyH_ready (rs := [6]) (by kernel_rfl) (by simp) ?_
                refine AllReadyH.cons (o := { dst := some 55, op := Go.Op.call { callee := Go.Callee.builtin Go.Builtin.append, args := #[Go.Operand.tmp 50, Go.Operand.tmp 54], argTypes := #[24, 24] }, type := 24, pos := "l10_chain.go:155", after := #[{ on := 1, ground := Go.Ground.data }, { on := 5, ground := Go.Ground.data }, { on := 4, ground := Go.Ground.chain }], guard := none }) rfl (fun K hK => ?_) AllReadyH.nil
                refine step_append_int hT4.own p rfl _ _ rfl rfl rfl (by omega) (by have := hT4.size; have := hT4.box.lt; have := hT4.cw; omega) ?_
                intro g cap w5 hO5 hg5 hb5 hgl hz5
                have hbx := hT4.box.ext (⟨hg5.os, hg5.tape, hg5.output, hg5.size, fun k hk hn => hg5.block k hk (fun e => hn e.symm)⟩ : Ext (fun q => (Value.slice av x.ids.length cp).ownBlock = some q) w4 w5) (fun q => box_neC hT4.own hT4.box (by decide) _ q rfl)
                have u1 := Box.at hbx 1 _ rfl
                simp only [List.getElem_toArray, List.getElem_cons_zero, List.getElem_cons_succ] at u1
                have uf := Box.soft hbx
                have ul := Box.lt hbx
                refine hK.out _ _ trivial (fun hHeld => ?_)
                clear hK K
                try simp only [Act.put, List.setIfInBounds_toArray, List.set_cons_zero, List.set_cons_succ]
                refine wpAnyH_take (i := 7) (oi := { dst := some 56, op := Go.Op.fieldAddr 26 (Go.Operand.tmp 3) 1, type := 0, pos := "l10_chain.go:155", after := #[{ on := 0, ground := Go.Ground.phase }, { on := 1, ground := Go.Ground.phase }, { on := 2, ground := Go.Ground.phase }, { on := 3, ground := Go.Ground.phase }, { on := 4, ground := Go.Ground.phase }, { on := 5, ground := Go.Ground.phase }, { on := 6, ground := Go.Ground.phase }], guard := none }) (v := ?vg10b7_8) rfl (by kernel_rfl) (by kernel_rfl) (by kernel_rfl) (fun _ _ _ h => h) (Or.inl ⟨by rfl, ?hg10b7_8⟩) hHeld ?rg10b7_8
                case hg10b7_8 =>
                  intro wS hSw
                  (try dsimp only at hSw)
                  go_simp
                  try with_reducible rfl
                case rg10b7_8 =>
                simp only [Act.put, List.setIfInBounds_toArray, List.set_cons_zero, List.set_cons_succ]
                refine wpAnyH_ready (rs := [8]) (by kernel_rfl) (by simp) ?_
                refine AllReadyH.cons (o := { dst := none, op := Go.Op.store 24 (Go.Operand.tmp 56) (Go.Operand.tmp 55), type := 0, pos := "l10_chain.go:155", after := #[{ on := 7, ground := Go.Ground.data }, { on := 6, ground := Go.Ground.data }, { on := 6, ground := Go.Ground.chain }, { on := 0, ground := Go.Ground.phase }, { on := 1, ground := Go.Ground.phase }, { on := 2, ground := Go.Ground.phase }, { on := 3, ground := Go.Ground.phase }, { on := 4, ground := Go.Ground.phase }, { on := 5, ground := Go.Ground.phase }, { on := 6, ground := Go.Ground.phase }], guard := none }) rfl (fun K hK => ?_) AllReadyH.nil
                go_simp
                try go_wp2_with fail
                refine hK.out _ _ trivial (fun hHeld => ?_)
                clear hK K
                try simp only [Act.put, List.setIfInBounds_toArray, List.set_cons_zero, List.set_cons_succ]
                refine wpAnyH_done (by kernel_rfl) ?_ _
                refine NoPanic.normal ?_
                have hO6 : w5.ownsRow (w.heap.size + 1) 2 1 (.slice (some ⟨g, 0, none⟩) (x.ids.length + 1) cap) (x.ids ++ [p]).length ((x.ids ++ [p]).map (Value.int .i64)) := by
                  rw [List.length_append, List.map_append]
                  exact hO5
                have hT9 := hT4.append (x.ids ++ [p]) hg5 hO6 (fun z hz => by
                  rcases List.mem_append.1 hz with hz | hz
                  · exact hT4.ids z hz
                  · rw [List.mem_singleton.1 hz]; omega)
                clear hHeld hT0 hT3 hT4 hT5 hO5 hO6 hg5 hb5 hbx u1 uf ul y1 yl nb3 nb5
                have HT9 := hide hT9
                clear hT9
                go_upto_region 16 with fail
                generalize w5.setCell ⟨C, 1, none⟩ (.slice (some ⟨g, 0, none⟩) (x.ids.length + 1) cap) = W9 at *
                have hT := unhide HT9
                clear HT9
                have c0 := Box.at hT.box 0 _ rfl
                have c1 := Box.at hT.box 1 _ rfl
                simp only [List.getElem_toArray, List.getElem_cons_zero, List.getElem_cons_succ] at c0 c1
                have cf := Box.soft hT.box
                have cl := Box.lt hT.box
                have z0 := Box.at hT.res 0 _ rfl
                have z1 := Box.at hT.res 1 _ rfl
                simp only [List.getElem_toArray, List.getElem_cons_zero, List.getElem_cons_succ] at z0 z1
                have zf := Box.soft hT.res
                have zl := Box.lt hT.res
                have HP := hide (hT.close (M := 100) (m0 := m) (by simp only [List.length_append, List.length_singleton]; omega) (by simp only; omega) (by omega))
                clear hT
                go_wp2_with fail
                refine bodyPost_ret (v := .agg #[.int .i64 (x.epoch), .slice (some ⟨g, 0, none⟩) (x.ids.length + 1) cap]) (by simp [results, Tryd.results40, go_sem, z0, z1]) rfl ?_
                exact unhide HP
              case og10b5_7 =>
                have nb5 : Below w4.heap.size w4 (w4.alloc (.cells #[.int .i64 p] 2)) := (Below.refl _ _).alloc (Nat.le_refl _) _
                have hT5 := hT4.later nb5
                go_simp
                try go_wp2_with fail
                refine hK.out _ _ trivial (fun hHeld => ?_)
                clear hK K
                try simp only [Act.put, List.setIfInBounds_toArray, List.set_cons_zero, List.set_cons_succ]
                refine wpAnyH_ready (rs := [1]) (by kernel_rfl) (by simp) ?_
                refine AllReadyH.cons (o := { dst := some 50, op := Go.Op.load 24 (Go.Operand.tmp 49), type := 24, pos := "l10_chain.go:155", after := #[{ on := 0, ground := Go.Ground.data }], guard := none }) rfl (fun K hK => ?_) AllReadyH.nil
                have y1 := Box.at hT5.box 1 _ rfl
                simp only [List.getElem_toArray, List.getElem_cons_zero, List.getElem_cons_succ] at y1
                have yl := Box.lt hT5.box
                go_simp
                try go_wp2_with fail
                refine hK.out _ _ trivial (fun hHeld => ?_)
                clear hK K
                try simp only [Act.put, List.setIfInBounds_toArray, List.set_cons_zero, List.set_cons_succ]
                refine wpAnyH_ready (rs := [6]) (by kernel_rfl) (by simp) ?_
                refine AllReadyH.cons (o := { dst := some 55, op := Go.Op.call { callee := Go.Callee.builtin Go.Builtin.append, args := #[Go.Operand.tmp 50, Go.Operand.tmp 54], argTypes := #[24, 24] }, type := 24, pos := "l10_chain.go:155", after := #[{ on := 1, ground := Go.Ground.data }, { on := 5, ground := Go.Ground.data }, { on := 4, ground := Go.Ground.chain }], guard := none }) rfl (fun K hK => ?_) AllReadyH.nil
                refine step_append_int hT4.own p rfl _ _ rfl rfl rfl (by omega) (by have := hT4.size; have := hT4.box.lt; have := hT4.cw; omega) ?_
                intro g cap w5 hO5 hg5 hb5 hgl hz5
                have hbx := hT4.box.ext (⟨hg5.os, hg5.tape, hg5.output, hg5.size, fun k hk hn => hg5.block k hk (fun e => hn e.symm)⟩ : Ext (fun q => (Value.slice av x.ids.length cp).ownBlock = some q) w4 w5) (fun q => box_neC hT4.own hT4.box (by decide) _ q rfl)
                have u1 := Box.at hbx 1 _ rfl
                simp only [List.getElem_toArray, List.getElem_cons_zero, List.getElem_cons_succ] at u1
                have uf := Box.soft hbx
                have ul := Box.lt hbx
                refine hK.out _ _ trivial (fun hHeld => ?_)
                clear hK K
                try simp only [Act.put, List.setIfInBounds_toArray, List.set_cons_zero, List.set_cons_succ]
                refine wpAnyH_take (i := 7) (oi := { dst := some 56, op := Go.Op.fieldAddr 26 (Go.Operand.tmp 3) 1, type := 0, pos := "l10_chain.go:155", after := #[{ on := 0, ground := Go.Ground.phase }, { on := 1, ground := Go.Ground.phase }, { on := 2, ground := Go.Ground.phase }, { on := 3, ground := Go.Ground.phase }, { on := 4, ground := Go.Ground.phase }, { on := 5, ground := Go.Ground.phase }, { on := 6, ground := Go.Ground.phase }], guard := none }) (v := ?vg10b7_9) rfl (by kernel_rfl) (by kernel_rfl) (by kernel_rfl) (fun _ _ _ h => h) (Or.inl ⟨by rfl, ?hg10b7_9⟩) hHeld ?rg10b7_9
                case hg10b7_9 =>
                  intro wS hSw
                  (try dsimp only at hSw)
                  go_simp
                  try with_reducible rfl
                case rg10b7_9 =>
                simp only [Act.put, List.setIfInBounds_toArray, List.set_cons_zero, List.set_cons_succ]
                refine wpAnyH_ready (rs := [8]) (by kernel_rfl) (by simp) ?_
                refine AllReadyH.cons (o := { dst := none, op := Go.Op.store 24 (Go.Operand.tmp 56) (Go.Operand.tmp 55), type := 0, pos := "l10_chain.go:155", after := #[{ on := 7, ground := Go.Ground.data }, { on := 6, ground := Go.Ground.data }, { on := 6, ground := Go.Ground.chain }, { on := 0, ground := Go.Ground.phase }, { on := 1, ground := Go.Ground.phase }, { on := 2, ground := Go.Ground.phase }, { on := 3, ground := Go.Ground.phase }, { on := 4, ground := Go.Ground.phase }, { on := 5, ground := Go.Ground.phase }, { on := 6, ground := Go.Ground.phase }], guard := none }) rfl (fun K hK => ?_) AllReadyH.nil
                go_simp
                try go_wp2_with fail
                refine hK.out _ _ trivial (fun hHeld => ?_)
                clear hK K
                try simp only [Act.put, List.setIfInBounds_toArray, List.set_cons_zero, List.set_cons_succ]
                refine wpAnyH_done (by kernel_rfl) ?_ _
                refine NoPanic.normal ?_
                have hO6 : w5.ownsRow (w.heap.size + 1) 2 1 (.slice (some ⟨g, 0, none⟩) (x.ids.length + 1) cap) (x.ids ++ [p]).length ((x.ids ++ [p]).map (Value.int .i64)) := by
                  rw [List.length_append, List.map_append]
                  exact hO5
                have hT9 := hT4.append (x.ids ++ [p]) hg5 hO6 (fun z hz => by
                  rcases List.mem_append.1 hz with hz | hz
                  · exact hT4.ids z hz
                  · rw [List.mem_singleton.1 hz]; omega)
                clear hHeld hT0 hT3 hT4 hT5 hO5 hO6 hg5 hb5 hbx u1 uf ul y1 yl nb3 nb5
                have HT9 := hide hT9
                clear hT9
                go_upto_region 16 with fail
                generalize w5.setCell ⟨C, 1, none⟩ (.slice (some ⟨g, 0, none⟩) (x.ids.length + 1) cap) = W9 at *
                have hT := unhide HT9
                clear HT9
                have c0 := Box.at hT.box 0 _ rfl
                have c1 := Box.at hT.box 1 _ rfl
                simp only [List.getElem_toArray, List.getElem_cons_zero, List.getElem_cons_succ] at c0 c1
                have cf := Box.soft hT.box
                have cl := Box.lt hT.box
                have z0 := Box.at hT.res 0 _ rfl
                have z1 := Box.at hT.res 1 _ rfl
                simp only [List.getElem_toArray, List.getElem_cons_zero, List.getElem_cons_succ] at z0 z1
                have zf := Box.soft hT.res
                have zl := Box.lt hT.res
                have HP := hide (hT.close (M := 100) (m0 := m) (by simp only [List.length_append, List.length_singleton]; omega) (by simp only; omega) (by omega))
                clear hT
                go_wp2_with fail
                refine bodyPost_ret (v := .agg #[.int .i64 (x.epoch), .slice (some ⟨g, 0, none⟩) (x.ids.length + 1) cap]) (by simp [results, Tryd.results40, go_sem, z0, z1]) rfl ?_
                exact unhide HP
        · have hTB := unhide HT
          have y1 := Box.at hTB.box 1 _ rfl
          simp only [List.getElem_toArray, List.getElem_cons_zero, List.getElem_cons_succ] at y1
          have yf := Box.soft hTB.box
          have yl := Box.lt hTB.box
          have HTC := hide (hTB.putV [] (World.ownsRow_nil _ _ _ _) (by simp))
          clear hTB HT
          go_upto_region 16 with fail
          clear y1 yf yl
          generalize w9.setCell ⟨C, 1, none⟩ (.slice none 0 0) = W9 at *
          have hT := unhide HTC
          clear HTC
          have c0 := Box.at hT.box 0 _ rfl
          have c1 := Box.at hT.box 1 _ rfl
          simp only [List.getElem_toArray, List.getElem_cons_zero, List.getElem_cons_succ] at c0 c1
          have cf := Box.soft hT.box
          have cl := Box.lt hT.box
          have z0 := Box.at hT.res 0 _ rfl
          have z1 := Box.at hT.res 1 _ rfl
          simp only [List.getElem_toArray, List.getElem_cons_zero, List.getElem_cons_succ] at z0 z1
          have zf := Box.soft hT.res
          have zl := Box.lt hT.res
          have HP := hide (hT.close (M := 100) (m0 := m) (by simp) (by simp only; omega) (by omega))
          clear hT
          go_wp2_with fail
          refine bodyPost_ret (v := .agg #[.int .i64 (x.epoch), .slice none 0 0]) (by simp [results, Tryd.results40, go_sem, z0, z1]) rfl ?_
          exact unhide HP
        · have dq0 : ((q : Int) == 0) = false := by rw [beq_eq_false_iff_ne]; omega
          have dq1 : ((q : Int) == 1) = false := by rw [beq_eq_false_iff_ne]; omega
          have dq2 : ((q : Int) == 2) = false := by rw [beq_eq_false_iff_ne]; omega
          have hT := unhide HT
          clear HT
          have c0 := Box.at hT.box 0 _ rfl
          have c1 := Box.at hT.box 1 _ rfl
          simp only [List.getElem_toArray, List.getElem_cons_zero, List.getElem_cons_succ] at c0 c1
          have cf := Box.soft hT.box
          have cl := Box.lt hT.box
          have z0 := Box.at hT.res 0 _ rfl
          have z1 := Box.at hT.res 1 _ rfl
          simp only [List.getElem_toArray, List.getElem_cons_zero, List.getElem_cons_succ] at z0 z1
          have zf := Box.soft hT.res
          have zl := Box.lt hT.res
          have HP := hide (hT.close (M := 100) (m0 := m) (by omega) (by omega) (by omega))
          clear hT
          go_wp2_with fail
          refine bodyPost_ret (v := .agg #[.int .i64 (x.epoch), .slice av x.ids.length cp]) (by simp [results, Tryd.results40, go_sem, z0, z1]) rfl ?_
          exact unhide HP
end Go.Proofs.YtceoaphcjnfphaaDoor

namespace Go.Proofs.YtceoaphcjnfphaaDoor
open Go.RowKit

theorem isCode_up10 {w w' : World} {cv : Value} (h : IsCode w.heap.size w cv) (hb : Below w.heap.size w w') : IsCode (w.heap.size + 1) w' cv := by
  obtain ⟨ao, len, cap, rfl, hl, h1⟩ := h.later hb
  refine ⟨ao, len, cap, rfl, hl, fun hp => ?_⟩
  obtain ⟨b, off, e, hB, hc⟩ := h1 hp
  exact ⟨b, off, e, by omega, hc⟩

theorem chain_lies {w : World} {a : Option Addr} {d lo hi : Nat} {x : DChain} (he : (Lit.int .i64 x.epoch).wf = true) (h : (Lay.sl Lay.int).LiesIn w [.slice a x.ids.length d] x.ids lo hi) : Lay.tChain.LiesIn w [.int .i64 x.epoch, .slice a x.ids.length d] x lo hi := by
  obtain ⟨bl, l, i⟩ := h
  exact ⟨bl, lies_Chain.2 ⟨a, d, bl, rfl, rfl, he, l⟩, i⟩
theorem lies_widen {α : Type} {A : Lay α} {w : World} {cs : List Value} {x : α} {lo hi lo' hi' : Nat} (h : A.LiesIn w cs x lo hi) (h1 : lo' ≤ lo) (h2 : hi ≤ hi') : A.LiesIn w cs x lo' hi' := by
  obtain ⟨bl, l, i⟩ := h
  exact ⟨bl, l, fun c hc => ⟨Nat.le_trans h1 (i c hc).1, Nat.lt_of_lt_of_le (i c hc).2 h2⟩⟩

set_option maxRecDepth 100000 in
set_option maxHeartbeats 4000000 in
theorem drawWith10 (ao : Option Addr) (len cap : Nat) (w : World) (hc : IsCode w.heap.size w (.slice ao len cap)) :
    Calls Tryd.prog 20 #[.slice ao len cap] w fun e w' => ∃ (cs : List Value) (x : DChain) (id : Int), e = .returned (.tuple #[.agg cs.toArray, .int .i64 id]) ∧ Lay.tChain.LiesIn w' cs x w.heap.size w'.heap.size ∧ x.ids.length ≤ 10 ∧ (-1000000 ≤ x.epoch ∧ x.epoch ≤ 1000000) ∧ (0 ≤ id ∧ id ≤ 6) ∧ Below w.heap.size w w' := by
  obtain ⟨cv, hcv⟩ : ∃ cv, cv = Value.slice ao len cap := ⟨_, rfl⟩
  have nb : Below w.heap.size w ((w.alloc (.cells #[.int .i64 0, .slice none 0 0] 26)).alloc (.cells #[.slice ao len cap, .int .i64 0] 82)) := ((Below.refl _ _).alloc (Nat.le_refl _) _).alloc (by simp) _
  have bR : Box 0 #[.int .i64 0, .slice none 0 0] 26 ((w.alloc (.cells #[.int .i64 0, .slice none 0 0] 26)).alloc (.cells #[.slice ao len cap, .int .i64 0] 82)) w.heap.size := (newBox (Nat.zero_le _)).grow _
  have LS := hide (source ao len cap (w.alloc (.cells #[.int .i64 0, .slice none 0 0] 26)))
  have hS : SrcAt ((w.alloc (.cells #[.int .i64 0, .slice none 0 0] 26)).alloc (.cells #[.slice ao len cap, .int .i64 0] 82)) (w.heap.size + 1) cv 0 := by
    rw [hcv]
    have := src_new (w.alloc (.cells #[.int .i64 0, .slice none 0 0] 26)) (.slice ao len cap)
    simpa using this
  have hC : IsCode (w.heap.size + 1) ((w.alloc (.cells #[.int .i64 0, .slice none 0 0] 26)).alloc (.cells #[.slice ao len cap, .int .i64 0] 82)) cv := by
    rw [hcv]
    exact isCode_up10 hc nb
  have hz : w.heap.size + 1 < ((w.alloc (.cells #[.int .i64 0, .slice none 0 0] 26)).alloc (.cells #[.slice ao len cap, .int .i64 0] 82)).heap.size := by simp
  have HB := hide nb
  have HR := hide bR
  have HS := hide hS
  have HC := hide hC
  clear nb bR hS hC hc
  go_enter Tryd.func20, Tryd.ntmps20
  go_wp2_with fail
  refine (unhide LS).mono ?_
  rintro e W1 ⟨rfl, hW1⟩
  subst hW1
  generalize (w.alloc (.cells #[.int .i64 0, .slice none 0 0] 26)).alloc (.cells #[.slice ao len cap, .int .i64 0] 82) = W1 at *
  have L := hide (drawBent10 (w.heap.size + 1) 0 cv W1 (unhide HS) (unhide HC) (by omega))
  have hzw : (w.alloc (.cells #[.int .i64 0, .slice none 0 0] 26)).heap.size = w.heap.size + 1 := by simp
  rw [hzw]
  clear LS HS HC hcv hzw
  go_wp2_with fail
  refine (unhide L).mono ?_
  rintro e w2 ⟨v, x, m2, rfl, hO, hi, hlen, hep, s2, hm2, c2, g2⟩
  obtain ⟨av, cp, rfl⟩ := own_shape hO
  have hz2 : W1.heap.size ≤ w2.heap.size := g2.size
  have nb2 : Below w2.heap.size w2 (w2.alloc (.cells #[.int .i64 1, .int .i64 2, .int .i64 3, .int .i64 4, .int .i64 5, .int .i64 6, .int .i64 0] 2)) := (Below.refl _ _).alloc (Nat.le_refl _) _
  have HR2 := hide (((unhide HR).ext (ext_grown g2) (by omega)).keep nb2)
  have hB2 := (unhide HB).grown g2 (unhide HB).size (fun k hk => by simp at hk; omega)
  have HB2 := hide (hB2.trans (nb2.mono hB2.size))
  have HO2 := hide (own_below hO nb2)
  have HI := hide hi
  have hz22 : w2.heap.size < (w2.alloc (.cells #[.int .i64 1, .int .i64 2, .int .i64 3, .int .i64 4, .int .i64 5, .int .i64 6, .int .i64 0] 2)).heap.size := by simp
  have L5 := hide (pick (w.heap.size + 1) m2 w2.heap.size cv [1, 2, 3, 4, 5, 6, 0] _ (s2.onW nb2) (c2.onW (by omega) nb2) (by omega) (by simp) (by simp) (heap_alloc_new w2 _) (by omega))
  clear L HR HB hB2 hO hi s2 c2 g2 nb2
  go_wp2_with fail
  generalize w2.alloc (.cells #[.int .i64 1, .int .i64 2, .int .i64 3, .int .i64 4, .int .i64 5, .int .i64 6, .int .i64 0] 2) = W2 at *
  refine (unhide L5).mono ?_
  rintro e w5 ⟨p, rfl, hp, s5, c5, g5⟩
  have hpb : 0 ≤ p ∧ p ≤ 6 := by
    simp only [List.mem_cons, List.not_mem_nil, or_false] at hp
    omega
  have bR := (unhide HR2).ext (ext_grown g5) (by omega)
  have hO5 := own_extC (unhide HO2) (ext_grown g5) (fun c hc e => by have := ((unhide HO2).lt c hc).1; omega)
  have hB6 := (unhide HB2).grown g5 (unhide HB2).size (fun k hk => by simp at hk; omega)
  have hF : Ext (fun q => q = w.heap.size) w5 ((w5.setCell ⟨w.heap.size, 0, none⟩ (.int .i64 x.epoch)).setCell ⟨w.heap.size, 1, none⟩ (.slice av x.ids.length cp)) := ((Ext.refl (fun q => q = w.heap.size) _).setCell ⟨w.heap.size, 0, none⟩ _ rfl).setCell ⟨w.heap.size, 1, none⟩ _ rfl
  have hO7 := own_extC hO5 hF (fun c hc e => by have := (hO5.lt c hc).1; omega)
  have HRD := hide (chain_lies (x := x) (wf_of_bd (by omega)) (Lay.ownInts (fun z hz => wf_of_bd (unhide HI z hz)) (by omega) (own_mono (b' := w.heap.size) (by omega) hO7)).lies)
  have HBF := hide (hB6.trans (hF.below hB6.size (fun q hq e => by omega)))
  have z0 := Box.at bR 0 _ rfl
  have z1 := Box.at bR 1 _ rfl
  simp only [List.getElem_toArray, List.getElem_cons_zero, List.getElem_cons_succ] at z0 z1
  have ff := Box.soft bR
  have l0 := Box.lt bR
  clear bR hO5 hB6 hF hO7 s5 c5 g5 L5 HR2 HB2 HO2 hp
  go_wp2_with fail
  refine bodyPost_ret (v := .tuple #[.agg #[.int .i64 x.epoch, .slice av x.ids.length cp], .int .i64 p]) (by simp [results, Tryd.results20, go_sem, z0, z1]) rfl ?_
  exact ⟨_, x, p, rfl, unhide HRD, hlen, hep, hpb, unhide HBF⟩

set_option maxRecDepth 100000 in
set_option maxHeartbeats 4000000 in
theorem drawCut10 (ao : Option Addr) (len cap : Nat) (w : World) (hc : IsCode w.heap.size w (.slice ao len cap)) :
    Calls Tryd.prog 6 #[.slice ao len cap] w fun e w' => ∃ (cs : List Value) (x : DChain) (id : Int), e = .returned (.tuple #[.agg cs.toArray, .int .i64 id]) ∧ Lay.tChain.LiesIn w' cs x w.heap.size w'.heap.size ∧ x.ids.length ≤ 10 ∧ (-1000000 ≤ x.epoch ∧ x.epoch ≤ 1000000) ∧ (0 ≤ id ∧ id ≤ 6) ∧ Below w.heap.size w w' := by
  have nb : Below w.heap.size w (w.alloc (.cells #[.int .i64 0, .slice none 0 0] 26)) := (Below.refl _ _).alloc (Nat.le_refl _) _
  have bR : Box 0 #[.int .i64 0, .slice none 0 0] 26 (w.alloc (.cells #[.int .i64 0, .slice none 0 0] 26)) w.heap.size := newBox (Nat.zero_le _)
  have hc2 : IsCode (w.alloc (.cells #[.int .i64 0, .slice none 0 0] 26)).heap.size (w.alloc (.cells #[.int .i64 0, .slice none 0 0] 26)) (.slice ao len cap) := by
    have := isCode_up10 hc nb
    have hz : (w.alloc (.cells #[.int .i64 0, .slice none 0 0] 26)).heap.size = w.heap.size + 1 := by simp
    rw [hz]
    exact this
  have L := hide (drawWith10 ao len cap (w.alloc (.cells #[.int .i64 0, .slice none 0 0] 26)) hc2)
  have hz0 : w.heap.size < (w.alloc (.cells #[.int .i64 0, .slice none 0 0] 26)).heap.size := by simp
  have HB := hide nb
  have HR := hide bR
  clear nb bR hc hc2
  go_enter Tryd.func6, Tryd.ntmps6
  go_wp2_with fail
  generalize w.alloc (.cells #[.int .i64 0, .slice none 0 0] 26) = W at *
  refine (unhide L).mono ?_
  rintro e w5 ⟨cs, x, id, rfl, hX, hlen, hep, hid, hb⟩
  obtain ⟨av, cp, rfl, -⟩ := open_Chain hX.reads
  have bR := (unhide HR).keep hb
  have hB6 := (unhide HB).trans (hb.mono (unhide HB).size)
  have z0 := Box.at bR 0 _ rfl
  have z1 := Box.at bR 1 _ rfl
  simp only [List.getElem_toArray, List.getElem_cons_zero, List.getElem_cons_succ] at z0 z1
  have ff := Box.soft bR
  have l0 := Box.lt bR
  have hF : Ext (fun q => q = w.heap.size) w5 ((w5.setCell ⟨w.heap.size, 0, none⟩ (.int .i64 x.epoch)).setCell ⟨w.heap.size, 1, none⟩ (.slice av x.ids.length cp)) := ((Ext.refl (fun q => q = w.heap.size) _).setCell ⟨w.heap.size, 0, none⟩ _ rfl).setCell ⟨w.heap.size, 1, none⟩ _ rfl
  have HRD := hide (lies_widen (hX.ext hF (fun q h1 h2 e => by omega)) (Nat.le_of_lt hz0) hF.size)
  have HBF := hide (hB6.trans (hF.below hB6.size (fun q hq e => by omega)))
  clear bR hB6 hF hb hX L HR HB
  go_wp2_with fail
  refine bodyPost_ret (v := .tuple #[.agg #[.int .i64 x.epoch, .slice av x.ids.length cp], .int .i64 id]) (by simp [results, Tryd.results6, go_sem, z0, z1]) rfl ?_
  exact ⟨_, x, id, rfl, unhide HRD, hlen, hep, hid, unhide HBF⟩
end Go.Proofs.YtceoaphcjnfphaaDoor

namespace Go.Proofs.YtceoaphcjnfphaaDoor
open Go.RowKit

theorem filter_one : ∀ (l : List Int) (z : Int), l.Nodup → z ∈ l → (l.filter fun u => u != z).length + 1 = l.length
  | [], _, _, h => by cases h
  | a :: l, z, hn, hm => by
    obtain ⟨h1, h2⟩ := List.nodup_cons.1 hn
    by_cases e : a = z
    · subst e
      have : (l.filter fun u => u != a) = l := List.filter_eq_self.2 fun u hu => by
        rw [bne_iff_ne]
        intro q
        rw [q] at hu
        exact h1 hu
      rw [List.filter_cons, if_neg (by simp), this, List.length_cons]
    · have hm2 : z ∈ l := by
        rcases List.mem_cons.1 hm with q | q
        · exact absurd q.symm e
        · exact q
      have := filter_one l z h2 hm2
      rw [List.filter_cons, if_pos (by simpa using e), List.length_cons, List.length_cons]
      omega
theorem place_nodup {ids : List Int} (hn : ids.Nodup) {i : Nat} (h : i < ids.length) : placeC ids ids[i] = (i : Int) :=
  placeC_at h rfl fun j hj e => List.pairwise_iff_getElem.1 hn j i (by omega) h hj e
theorem next_nodup {ids : List Int} (hn : ids.Nodup) {i : Nat} (h : i + 1 < ids.length) : nextC ids ids[i] 1 = ids[i + 1] := by
  rw [nextC, place_nodup hn (by omega), if_neg (by omega)]
  rw [show ((i : Int) + 1).toNat = i + 1 by omega]
  simp [List.getD, h]
theorem prev_nodup {ids : List Int} (hn : ids.Nodup) {i : Nat} (h : i + 1 < ids.length) : nextC ids ids[i + 1] (-1) = ids[i] := by
  rw [nextC, place_nodup hn h, if_neg (by omega)]
  rw [show (((i + 1 : Nat) : Int) + -1).toNat = i by omega]
  simp [List.getD, show i < ids.length by omega]
theorem last_nodup {ids : List Int} (hn : ids.Nodup) {i : Nat} (h : i < ids.length) (hl : i + 1 = ids.length) : nextC ids ids[i] 1 = 0 := by
  rw [nextC, place_nodup hn h, if_pos (Or.inr (Or.inr (by omega)))]
theorem beside_more {x : DChain} (ok : ChainOK x) {i : Nat} (h : i + 1 < x.ids.length) : besideR x x.ids[i] 1 = ⟨0, x.ids[i + 1]⟩ := by
  have h1 := ok.ids x.ids[i + 1] (List.getElem_mem h)
  rw [besideR, if_pos ok.fault, if_neg (by rw [place_nodup ok.nodup (by omega)]; omega), next_nodup ok.nodup h, if_neg (by omega)]
theorem beside_prev {x : DChain} (ok : ChainOK x) {i : Nat} (h : i + 1 < x.ids.length) : besideR x x.ids[i + 1] (-1) = ⟨0, x.ids[i]⟩ := by
  have h1 := ok.ids x.ids[i] (List.getElem_mem (by omega))
  rw [besideR, if_pos ok.fault, if_neg (by rw [place_nodup ok.nodup h]; omega), prev_nodup ok.nodup h, if_neg (by omega)]
theorem beside_last {x : DChain} (ok : ChainOK x) {i : Nat} (h : i < x.ids.length) (hl : i + 1 = x.ids.length) : besideR x x.ids[i] 1 = ⟨8, 0⟩ := by
  rw [besideR, if_pos ok.fault, if_neg (by rw [place_nodup ok.nodup h]; omega), last_nodup ok.nodup h hl, if_pos rfl]
structure Chains (x : DChain) (id : Int) (y : DChain) : Prop where
  cut : cutR x id = ⟨0, y⟩
  xok : ChainOK x
  yok : ChainOK y
  ep : y.epoch = x.epoch + 1
  len : y.ids.length + 1 = x.ids.length
  none : besideR y id 1 = ⟨4, 0⟩
  join : joinR y id = badChain 2 ∨ joinR y id = ⟨0, ⟨y.epoch + 1, y.ids ++ [id]⟩⟩
theorem chains_plain {x : DChain} {id : Int} (h : (cutR x id).code = 0) : ∃ y, Chains x id y := by
  by_cases hc : chainFault x = 0
  · have ok := chainFault_zero hc
    by_cases h0 : placeC x.ids id < 0
    · rw [cutR, if_pos hc, if_pos h0] at h; cases h
    · by_cases h1 : x.ids.length = 1
      · rw [cutR, if_pos hc, if_neg h0, if_pos h1] at h; cases h
      · by_cases h2 : 999 ≤ x.epoch
        · rw [cutR, if_pos hc, if_neg h0, if_neg h1, if_pos h2] at h; cases h
        · have hm : id ∈ x.ids := Classical.byContradiction fun q => h0 ((placeC_neg _ _).2 q)
          have hl := filter_one x.ids id ok.nodup hm
          have he := ok.epoch
          have hx := ok.len
          have yok : ChainOK (cutCh x id) := ⟨by show 1 ≤ x.epoch + 1 ∧ x.epoch + 1 ≤ 999; omega, by show 1 ≤ (x.ids.filter fun z => z != id).length ∧ (x.ids.filter fun z => z != id).length ≤ 5; omega, fun z hz => ok.ids z (List.mem_filter.1 hz).1, ok.nodup.filter _⟩
          have hno : placeC (cutCh x id).ids id < 0 := (placeC_neg _ _).2 fun hq => by
            have := (List.mem_filter.1 hq).2
            simp at this
          refine ⟨cutCh x id, by rw [cutR, if_pos hc, if_neg h0, if_neg h1, if_neg h2], ok, yok, rfl, hl, ?_, ?_⟩
          · rw [besideR, if_pos yok.fault, if_pos hno]
          · by_cases h3 : 999 ≤ (cutCh x id).epoch
            · left
              rw [joinR, if_pos yok.fault, if_pos (ok.ids id hm), if_neg (by omega), if_pos h3]
            · right
              rw [joinR, if_pos yok.fault, if_pos (ok.ids id hm), if_neg (by omega), if_neg h3]
              rfl
  · rw [cutR, if_neg hc] at h
    exact absurd h hc
end Go.Proofs.YtceoaphcjnfphaaDoor

namespace Go.Proofs.YtceoaphcjnfphaaDoor
open Go.RowKit

theorem big_no (ao : Option Addr) (len cap : Nat) (w : World) (hn : len ≤ 1048576) :
    Calls Tryd.prog 5 #[.slice ao len cap] w fun e w' => e = .returned (.bool false) ∧ w' = w := by
  have hd : decide (1048576 < (len : Int)) = false := by simp; omega
  go_enter Tryd.func5, Tryd.ntmps5
  go_wp2
  go_ret
  exact ⟨rfl, rfl⟩

theorem big_yes (ao : Option Addr) (len cap : Nat) (w : World) (hn : 1048576 < len) :
    Calls Tryd.prog 5 #[.slice ao len cap] w fun e w' => e = .returned (.bool true) ∧ w' = w := by
  have hd : decide (1048576 < (len : Int)) = true := by simp; omega
  go_enter Tryd.func5, Tryd.ntmps5
  go_wp2
  go_ret
  exact ⟨rfl, rfl⟩

/-- A function that computes: what it answers wherever w1 stands. -/
def Tells (P : Program) (f : Nat) (args : Array Value) (w1 : World) (v : Value) : Prop :=
  ∀ W, Below w1.heap.size w1 W → Calls P f args W fun e w' => e = .returned v ∧ Below W.heap.size W w'

theorem below_step {w1 W W' : World} (h : Below w1.heap.size w1 W) (k : Below W.heap.size W W') : Below w1.heap.size w1 W' := h.trans (k.mono h.size)

end Go.Proofs.YtceoaphcjnfphaaDoor

namespace Go.Proofs.YtceoaphcjnfphaaDoor
open Go.RowKit

def str (l : Bytes) : Value := .string ⟨l.toArray⟩

theorem below_keep {w W W' : World} (h : Below w.heap.size w W) (k : Below W.heap.size W W') : Below w.heap.size w W' := h.trans (k.mono h.size)

theorem below_undrew {W w1 : World} (h : Below W.drew.heap.size W.drew w1) : Below W.heap.size W w1 := ⟨h.os, h.tape, h.output, h.size, h.block⟩
theorem str_app (l m : Bytes) : (⟨l.toArray⟩ ++ ⟨m.toArray⟩ : ByteArray) = ⟨(l ++ m).toArray⟩ := by
  apply ByteArray.ext
  simp

theorem conv1 (w : World) (x : Int) : (convert 22 9 (.slice (some ⟨w.heap.size, 0, none⟩) 1 1)).run Tryd.prog (w.alloc (.cells #[.int .u8 x] 5)) = .ok (.string ⟨#[UInt8.ofNat x.toNat]⟩) (w.alloc (.cells #[.int .u8 x] 5)) := by
  have h := run_convert_bytes_arg (P := Tryd.prog) (w.alloc (.cells #[.int .u8 x] 5)) 22 5 Tryd.underlying22 Tryd.underlying5 w.heap.size 0 1 1 [x] rfl (fun i hi => by
    obtain rfl : i = 0 := by omega
    simp [go_sem]) 9 Tryd.underlying9
  exact h

theorem conv_later {w w1 : World} {x : Int} (hb : Below (w.alloc (.cells #[.int .u8 x] 5)).drew.heap.size (w.alloc (.cells #[.int .u8 x] 5)).drew w1) :
    (convert 22 9 (.slice (some ⟨w.heap.size, 0, none⟩) 1 1)).run Tryd.prog w1 = .ok (.string ⟨#[UInt8.ofNat x.toNat]⟩) w1 := by
  have h := run_convert_bytes_arg (P := Tryd.prog) w1 22 5 Tryd.underlying22 Tryd.underlying5 w.heap.size 0 1 1 [x] rfl (fun i hi => by
    obtain rfl : i = 0 := by omega
    rw [hb.cell (by show w.heap.size < (w.alloc (.cells #[.int .u8 x] 5)).heap.size; simp)]
    show (w.alloc (.cells #[.int .u8 x] 5)).cell? ⟨w.heap.size, 0 + 0, none⟩ = _
    simp [go_sem]) 9 Tryd.underlying9
  exact h

set_option maxRecDepth 100000 in
set_option maxHeartbeats 400000 in
theorem digits_one (n : Nat) (w : World) (hn : n < 10) :
    Calls Tryd.prog 51 #[.int .i64 (n : Int)] w fun e w' => e = .returned (str [dch n]) ∧ Below w.heap.size w w' := by
  have hcv := conv1 w (48 + (n : Int))
  go_enter Tryd.func51, Tryd.ntmps51
  go_wp2
  go_ret
  exact ⟨rfl, (Below.refl _ _).alloc (Nat.le_refl _) _⟩

set_option maxRecDepth 100000 in
set_option maxHeartbeats 400000 in
theorem digits_more (f n : Nat) (w : World) (hn : 10 ≤ n) (hn2 : n ≤ 99999) (hf : f ≤ 5)
    (ih : Hid (∀ W, Calls Tryd.prog 51 #[.int .i64 ((n / 10 : Nat) : Int)] W fun e w' => e = .returned (str (decF f (n / 10))) ∧ Below W.heap.size W w')) :
    Calls Tryd.prog 51 #[.int .i64 (n : Int)] w fun e w' => e = .returned (str (decF f (n / 10) ++ [dch (n % 10)])) ∧ Below w.heap.size w w' := by
  obtain ⟨d, hd⟩ : ∃ d : Nat, d = n % 10 := ⟨_, rfl⟩
  rw [← hd]
  have hd9 : d ≤ 9 := by omega
  have hcv := fun W => conv1 W (48 + (d : Int))
  have hcvd := conv_later (w := w) (x := 48 + (d : Int)) (Below.refl _ _)
  have hl := decF_len f (n / 10)
  generalize decF f (n / 10) = ds at *
  have hsum : ∀ W : World, (Op.stringOp .add ⟨ds.toArray⟩ ⟨#[UInt8.ofNat (48 + (d : Int)).toNat]⟩).run Tryd.prog W = .ok (.string (⟨ds.toArray⟩ ++ ⟨#[UInt8.ofNat (48 + (d : Int)).toNat]⟩)) W := fun W => run_string_add_sum W _ _ (by simp [ByteArray.size]; omega)
  have hw1 : IntKind.i64.wrap ((n : Int) / 10) = ((n / 10 : Nat) : Int) := by simp only [IntKind.wrap_i64]; omega
  have hw2 : IntKind.i64.wrap (48 + (n : Int).tmod 10) = 48 + (d : Int) := by
    rw [Int.tmod_eq_emod_of_nonneg (by omega)]
    simp only [IntKind.wrap_i64]
    omega
  have hw3 : IntKind.u8.wrap (48 + (d : Int)) = 48 + (d : Int) := by simp only [IntKind.wrap_u8]; omega
  have HD := hide hd
  clear hd
  simp only [str] at ih ⊢
  go_enter Tryd.func51, Tryd.ntmps51
  go_wp2_with fail
  go_region_with (go_at_call 51; refine (unhide ih _).mono ?_; rintro e w1 ⟨rfl, hb1⟩; (first | have hq := conv_later hb1 | skip))
  all_goals go_wp2_with fail
  all_goals go_ret
  all_goals refine ⟨congrArg (fun b => Ending.returned (Value.string b)) (str_app ds [dch d]), ?_⟩
  · exact (below_undrew hb1).alloc (below_undrew hb1).size _
  · exact ((Below.refl w.heap.size w).alloc (Nat.le_refl _) _).trans ((below_undrew hb1).mono (by simp))
  · exact ((Below.refl w.heap.size w).alloc (Nat.le_refl _) _).trans ((below_undrew hb1).mono (by simp))

/-- l1Digits at a number from 0 on. -/
theorem digits_nat (f : Nat) : ∀ (n : Nat) (w : World), n < 10 ^ (f + 1) → f ≤ 4 →
    Calls Tryd.prog 51 #[.int .i64 (n : Int)] w fun e w' => e = .returned (str (decF (f + 1) n)) ∧ Below w.heap.size w w' := by
  induction f with
  | zero =>
    intro n w hn _
    have e : decF (0 + 1) n = [dch n] := by simp [decF]; intro h; omega
    rw [e]
    exact digits_one n w (by omega)
  | succ f ih =>
    intro n w hn hf
    by_cases h : n < 10
    · have e : decF (f + 1 + 1) n = [dch n] := by rw [decF, if_pos h]
      rw [e]
      exact digits_one n w h
    · have e : decF (f + 1 + 1) n = decF (f + 1) (n / 10) ++ [dch (n % 10)] := by rw [decF, if_neg h]
      rw [e]
      have hp : n < 100000 := Nat.lt_of_lt_of_le hn (Nat.pow_le_pow_right (n := 10) (by omega) (show f + 1 + 1 ≤ 5 by omega))
      have hq : n / 10 < 10 ^ (f + 1) := by
        rw [Nat.pow_succ] at hn
        omega
      exact digits_more (f + 1) n w (by omega) (by omega) (by omega) (fun W => ih (n / 10) W hq (by omega))

set_option maxHeartbeats 400000 in
theorem digits_neg (n : Nat) (w : World) (hn : 1 ≤ n) (hn2 : n ≤ 9999) :
    Calls Tryd.prog 51 #[.int .i64 (-(n : Int))] w fun e w' => e = .returned (str (45 :: decF 4 n)) ∧ Below w.heap.size w w' := by
  have hl := decF_len 4 n
  have hsum : ∀ W : World, (Op.stringOp .add ⟨#[45]⟩ ⟨(decF 4 n).toArray⟩).run Tryd.prog W = .ok (.string (⟨#[45]⟩ ++ ⟨(decF 4 n).toArray⟩)) W := fun W => run_string_add_sum W _ _ (by simp [ByteArray.size]; omega)
  go_enter Tryd.func51, Tryd.ntmps51
  go_wp2_with fail
  refine (digits_nat 3 n w (by omega) (by omega)).mono ?_
  rintro e w1 ⟨rfl, hb1⟩
  simp only [str]
  have HB := hide hb1
  clear hb1
  go_wp2_with fail
  go_ret
  exact ⟨congrArg (fun b => Ending.returned (Value.string b)) (str_app [45] (decF 4 n)), unhide HB⟩

/-- l1Digits. -/
theorem digits (n : Int) (w : World) (h1 : -9999 ≤ n) (h2 : n ≤ 9999) :
    Calls Tryd.prog 51 #[.int .i64 n] w fun e w' => e = .returned (str (dec n)) ∧ Below w.heap.size w w' := by
  by_cases h : n < 0
  · obtain ⟨m, rfl⟩ : ∃ m : Nat, n = -(m : Int) := ⟨n.natAbs, by omega⟩
    have e : dec (-(m : Int)) = 45 :: decF 4 m := by simp [dec]; intro h; omega
    rw [e]
    exact digits_neg m w (by omega) (by omega)
  · obtain ⟨m, rfl⟩ := Int.eq_ofNat_of_zero_le (show 0 ≤ n by omega)
    have e : dec (m : Int) = decF 4 m := by simp [dec]
    rw [e]
    exact digits_nat 3 m w (by omega) (by omega)

end Go.Proofs.YtceoaphcjnfphaaDoor

namespace Go.Proofs.YtceoaphcjnfphaaDoor
open Go.RowKit

def textC (e : Int) (ids : List Int) : Bytes := [101, 112, 111, 99, 104, 32] ++ dec e ++ [32, 58] ++ ids.flatMap fun z => [32] ++ dec z
def textR (x : DChain) : DTextResult := if chainFault x = 0 then ⟨0, ⟨(textC x.epoch x.ids).toArray⟩⟩ else ⟨chainFault x, ⟨#[]⟩⟩
theorem dec_few (n : Int) : (dec n).length ≤ 5 := by
  unfold dec
  split
  · have := decF_len 4 n.natAbs
    simp
    omega
  · have := decF_len 4 n.toNat
    omega
theorem flat_few : ∀ ids : List Int, (ids.flatMap fun z => [32] ++ dec z).length ≤ 6 * ids.length
  | [] => by simp
  | z :: zs => by
    have h1 := flat_few zs
    have h2 := dec_few z
    rw [List.flatMap_cons, List.length_append, List.length_append, List.length_cons, List.length_cons, List.length_nil]
    omega
theorem textC_few (e : Int) (ids : List Int) : (textC e ids).length ≤ 13 + 6 * ids.length := by
  have h1 := flat_few ids
  have h2 := dec_few e
  unfold textC
  rw [List.length_append, List.length_append, List.length_append]
  simp only [List.length_cons, List.length_nil]
  omega
theorem textC_step (e : Int) (ids : List Int) (k : Nat) (hk : k < ids.length) : textC e (ids.take k) ++ [32] ++ dec ids[k] = textC e (ids.take (k + 1)) := by
  rw [List.take_succ_eq_append_getElem hk, textC, textC, List.flatMap_append, List.flatMap_singleton]
  simp only [List.append_assoc]
theorem textC_nil (e : Int) : [101, 112, 111, 99, 104, 32] ++ dec e ++ [32, 58] = textC e [] := by simp [textC]
/-- Two texts, one behind the other. -/
theorem addC {a b c : Bytes} (h : a ++ b = c) (hl : c.length ≤ 1000) : ∀ W : World, (Op.stringOp .add ⟨a.toArray⟩ ⟨b.toArray⟩).run Tryd.prog W = .ok (.string ⟨c.toArray⟩) W := by
  intro W
  subst h
  simp at hl
  exact (run_string_add_sum W _ _ (by simp [ByteArray.size]; omega)).trans (by rw [str_app])
theorem lies_textR {w : World} {c : Int} {s : ByteArray} {lo hi : Nat} (hc : (Lit.int .i64 c).wf = true) : Lay.tTextResult.OwnIn w [.int .i64 c, .string s] ⟨c, s⟩ lo hi :=
  ⟨[], ⟨lies_TextResult.2 ⟨rfl, rfl, hc⟩, by simp, by simp⟩, by simp⟩
end Go.Proofs.YtceoaphcjnfphaaDoor

namespace Go.Proofs.YtceoaphcjnfphaaDoor
open Go.RowKit

set_option maxRecDepth 10000 in
set_option maxHeartbeats 1000000 in
theorem l10TextC (b : Nat) (a : Option Addr) (d : Nat) (x : DChain) (w : World) (hX : ChainAt w b (.slice a x.ids.length d) x) (R : (Lay.sl Lay.int).Reads w [.slice a x.ids.length d] x.ids) (ok : ChainOK x) :
    Calls Tryd.prog 35 #[.pointer (some ⟨b, 0, none⟩)] w fun e w' => e = .returned (.string ⟨(textC x.epoch x.ids).toArray⟩) ∧ Below w.heap.size w w' := by
  have x0 := Box.at hX 0 _ rfl
  have xl := Box.lt hX
  simp only [List.getElem_toArray, List.getElem_cons_zero] at x0
  have hlen := ok.len
  have hep := ok.epoch
  have HO := hide ok.ids
  have HX := hide hX
  have H := hide R
  have D0 := digits x.epoch w (by omega) (by omega)
  simp only [str] at D0
  have HD := hide D0
  have l1 := dec_few x.epoch
  have hT : [101, 112, 111, 99, 104, 32] ++ dec x.epoch ++ [32, 58] = textC x.epoch (x.ids.take 0) := by rw [textC_nil]; simp
  have HF : Hid (∀ k, (textC x.epoch (x.ids.take k)).length ≤ 200) := fun k => by
    have h1 := textC_few x.epoch (x.ids.take k)
    have h2 : (x.ids.take k).length ≤ x.ids.length := by rw [List.length_take]; omega
    omega
  have s1 : ∀ W : World, (Op.stringOp .add ⟨#[101, 112, 111, 99, 104, 32]⟩ ⟨(dec x.epoch).toArray⟩).run Tryd.prog W = .ok (.string ⟨([101, 112, 111, 99, 104, 32] ++ dec x.epoch).toArray⟩) W := addC (a := [101, 112, 111, 99, 104, 32]) rfl (by simp; omega)
  have s2 : ∀ W : World, (Op.stringOp .add ⟨([101, 112, 111, 99, 104, 32] ++ dec x.epoch).toArray⟩ ⟨#[32, 58]⟩).run Tryd.prog W = .ok (.string ⟨(textC x.epoch (x.ids.take 0)).toArray⟩) W := addC (b := [32, 58]) hT (by have := unhide HF 0; omega)
  clear hT hX R D0 l1
  generalize dec x.epoch = de at *
  generalize [101, 112, 111, 99, 104, 32] ++ de = p1 at *
  go_enter Tryd.func35, Tryd.ntmps35
  go_wp2_with fail
  refine (unhide HD).mono ?_
  rintro e w1 ⟨rfl, hb1⟩
  have HB1 := hide hb1
  clear HD hb1 x0
  go_wp2_with fail
  clear s1 s2
  go_loopw [3, 4] (fun s i wr => ∃ k : Nat, k ≤ x.ids.length ∧ i = .int .i64 k ∧ s = .string ⟨(textC x.epoch (x.ids.take k)).toArray⟩ ∧ Below w.heap.size w wr) (fun _ i _ => x.ids.length - (intOf i).toNat)
  case atStart => exact ⟨0, Nat.zero_le _, rfl, rfl, unhide HB1⟩
  case round =>
    obtain ⟨k, hk, rfl, rfl, hB⟩ := hrel
    clear HB1
    have x1 := Box.at ((unhide HX).keep hB) 1 _ rfl
    simp only [List.getElem_toArray, List.getElem_cons_zero, List.getElem_cons_succ] at x1
    have xlr := Box.lt ((unhide HX).keep hB)
    by_cases hlt : k < x.ids.length
    · have hdl : decide ((k : Int) < (x.ids.length : Int)) = true := by simp; omega
      obtain ⟨b2, off, rfl, hb2⟩ := Lay.sl_addr (unhide H) (by omega)
      have zc := int_cell ((unhide H).later hB) hlt
      have hid := unhide HO x.ids[k] (List.getElem_mem hlt)
      have HST := hide (textC_step x.epoch x.ids k hlt)
      have f1 := unhide HF k
      have f2 := unhide HF (k + 1)
      have D1 := digits x.ids[k] wr (by omega) (by omega)
      simp only [str] at D1
      have HD1 := hide D1
      have q1 : ∀ W : World, (Op.stringOp .add ⟨(textC x.epoch (x.ids.take k)).toArray⟩ ⟨#[32]⟩).run Tryd.prog W = .ok (.string ⟨(textC x.epoch (x.ids.take k) ++ [32]).toArray⟩) W := addC (b := [32]) rfl (by simp; omega)
      have q2 : ∀ W : World, (Op.stringOp .add ⟨(textC x.epoch (x.ids.take k) ++ [32]).toArray⟩ ⟨(dec x.ids[k]).toArray⟩).run Tryd.prog W = .ok (.string ⟨(textC x.epoch (x.ids.take (k + 1))).toArray⟩) W := addC (unhide HST) (by omega)
      have HBr := hide hB
      clear hB D1 HST f1 f2
      generalize textC x.epoch (x.ids.take k) = t0 at *
      generalize t0 ++ [32] = t1 at *
      generalize dec x.ids[k] = dz at *
      generalize x.ids[k] = z at *
      go_wp2_with fail
      refine (unhide HD1).mono ?_
      rintro e w2 ⟨rfl, hb2⟩
      have HB2 := hide ((unhide HBr).trans (hb2.mono (unhide HBr).size))
      clear HD1 HBr hb2 x1 zc q1
      go_wp2_with fail
      go_roundw
      case rel => exact ⟨k + 1, by omega, by go_num, rfl, unhide HB2⟩
      case measure => simp [intOf]; omega
    · obtain rfl : k = x.ids.length := by omega
      rw [List.take_length]
      have hdl : decide ((x.ids.length : Int) < (x.ids.length : Int)) = false := by simp
      have HBr := hide hB
      clear hB
      go_wp2_with fail
      go_ret
      exact ⟨rfl, unhide HBr⟩

set_option maxRecDepth 10000 in
set_option maxHeartbeats 1000000 in
theorem specChainText (cs : List Value) (x : DChain) (w : World) (h : Lay.tChain.Reads w cs x) :
    Calls Tryd.prog 15 #[.agg cs.toArray] w fun e w' => ∃ cs, e = .returned (.agg cs.toArray) ∧ Lay.tTextResult.OwnIn w' cs (textR x) w.heap.size w'.heap.size ∧ Below w.heap.size w w' := by
  obtain ⟨a, d, rfl, R⟩ := open_Chain h
  have nb : Below w.heap.size w ((w.alloc (.cells #[.int .i64 x.epoch, .slice a x.ids.length d] 26)).alloc (.cells #[.int .i64 0, .string ⟨#[]⟩] 37)) := ((Below.refl _ _).alloc (Nat.le_refl _) _).alloc (by simp) _
  have hX : ChainAt ((w.alloc (.cells #[.int .i64 x.epoch, .slice a x.ids.length d] 26)).alloc (.cells #[.int .i64 0, .string ⟨#[]⟩] 37)) w.heap.size (.slice a x.ids.length d) x := (newBox (Nat.zero_le _)).grow _
  have bR : Box 0 #[.int .i64 0, .string ⟨#[]⟩] 37 ((w.alloc (.cells #[.int .i64 x.epoch, .slice a x.ids.length d] 26)).alloc (.cells #[.int .i64 0, .string ⟨#[]⟩] 37)) (w.heap.size + 1) := newBoxAt (Nat.zero_le _) (by simp)
  have HF := hide (l10FaultC w.heap.size a d x _ hX (R.later nb))
  have HT : Hid (ChainOK x → _) := fun ok => l10TextC w.heap.size a d x _ hX (R.later nb) ok
  have HB := hide nb
  have HR := hide bR
  clear h R nb hX bR
  go_enter Tryd.func15, Tryd.ntmps15
  go_wp2_with fail
  generalize (w.alloc (.cells #[.int .i64 x.epoch, .slice a x.ids.length d] 26)).alloc (.cells #[.int .i64 0, .string ⟨#[]⟩] 37) = W at *
  refine (unhide HF).mono ?_
  rintro e w1 ⟨rfl, h1⟩
  subst w1
  clear HF
  by_cases hc : chainFault x = 0
  · have HL := hide (unhide HT (chainFault_zero hc))
    have HV : Hid (textR x = ⟨0, ⟨(textC x.epoch x.ids).toArray⟩⟩) := if_pos hc
    rw [hc]
    clear hc HT
    generalize textC x.epoch x.ids = t at *
    go_wp2_with fail
    refine (unhide HL).mono ?_
    rintro e w1 ⟨rfl, hb⟩
    have bR := (unhide HR).keep hb
    have hlt := (unhide HR).lt
    have z0 := Box.at bR 0 _ rfl
    have z1 := Box.at bR 1 _ rfl
    simp only [List.getElem_toArray, List.getElem_cons_zero, List.getElem_cons_succ] at z0 z1
    have ff := Box.soft bR
    have l0 := Box.lt bR
    have hB1 := (unhide HB).trans (hb.mono (unhide HB).size)
    have HB2 := hide (below_setAll hB1 (w.heap.size + 1) 0 [.int .i64 0, .string ⟨t.toArray⟩] (by omega))
    clear bR hb hB1 HL HB HR
    go_wp2_with fail
    refine bodyPost_ret (v := .agg #[.int .i64 0, .string ⟨t.toArray⟩]) (by simp [results, Tryd.results15, go_sem, z0, z1]) rfl ?_
    rw [unhide HV]
    exact ⟨_, rfl, lies_textR (by decide), unhide HB2⟩
  · have HV : Hid (textR x = ⟨chainFault x, ⟨#[]⟩⟩) := if_neg hc
    have hv := chainFault_vals x
    have hc2 : (chainFault x != 0) = true := by simpa using hc
    have bR := unhide HR
    have z0 := Box.at bR 0 _ rfl
    have z1 := Box.at bR 1 _ rfl
    simp only [List.getElem_toArray, List.getElem_cons_zero, List.getElem_cons_succ] at z0 z1
    have ff := Box.soft bR
    have l0 := Box.lt bR
    clear hc HT bR HR
    generalize chainFault x = f at *
    have HB2 := hide (below_setAll (unhide HB) (w.heap.size + 1) 0 [.int .i64 f, .string ⟨#[]⟩] (by omega))
    clear HB
    go_wp2_with fail
    refine bodyPost_ret (v := .agg #[.int .i64 f, .string ⟨#[]⟩]) (by simp [results, Tryd.results15, go_sem, z0, z1]) rfl ?_
    rw [unhide HV]
    exact ⟨_, rfl, lies_textR (wf_of_bd (by omega)), unhide HB2⟩
end Go.Proofs.YtceoaphcjnfphaaDoor
