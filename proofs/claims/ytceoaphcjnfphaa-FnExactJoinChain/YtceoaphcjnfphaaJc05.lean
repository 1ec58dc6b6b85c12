/-
  Texts of this proof in one: ImplJoinC, SpecIntsB, SpecJoinC, ChainFew, LawJoinChain, LayOpen, OpenChain.
  Their conditions stand in their theorems.
-/
import Derived.Test.YtceoaphcjnfphaaJc04
import Derived.Deep.RegionHeld3
import Derived.Test.YtceoaphcjnfphaaChecked
import Derived.BigQuiet
import Derived.Deep.QuietTactic
import Derived.WalkSmall
import Derived.Test.YtceoaphcjnfphaaJc03
import Derived.Test.YtceoaphcjnfphaaJc02
import Derived.Test.YtceoaphcjnfphaaJc01
import Derived.ProofKit
import Derived.OpenShut
import Derived.Deep.Slices

namespace Go.Proofs.Ytceoaphcjnfphaa
open Go.RowKit

set_option maxRecDepth 10000 in
set_option maxHeartbeats 2000000 in
theorem implJoinChain (cs : List Value) (x : DChain) (id : Int) (w : World) (h : Lay.tChain.Reads w cs x) :
    Calls Try.prog 28 #[.agg cs.toArray, .int .i64 id] w fun e w' => ∃ cs, e = .returned (.agg cs.toArray) ∧ Lay.tChainResult.OwnIn w' cs (joinR x id) w.heap.size w'.heap.size ∧ Below w.heap.size w w' := by
  obtain ⟨a, d, rfl, R⟩ := open_Chain h
  have nb : Below w.heap.size w ((w.alloc (.cells #[.int .i64 x.epoch, .slice a x.ids.length d] 27)).alloc (.cells #[.int .i64 0, .int .i64 0, .slice none 0 0] 32)) := ((Below.refl _ _).alloc (Nat.le_refl _) _).alloc (by simp) _
  have hX : ChainAt ((w.alloc (.cells #[.int .i64 x.epoch, .slice a x.ids.length d] 27)).alloc (.cells #[.int .i64 0, .int .i64 0, .slice none 0 0] 32)) w.heap.size (.slice a x.ids.length d) x := (newBox (Nat.zero_le _)).grow _
  have bR : Box 0 #[.int .i64 0, .int .i64 0, .slice none 0 0] 32 ((w.alloc (.cells #[.int .i64 x.epoch, .slice a x.ids.length d] 27)).alloc (.cells #[.int .i64 0, .int .i64 0, .slice none 0 0] 32)) (w.heap.size + 1) := newBoxAt (Nat.zero_le _) (by simp)
  have HF := hide (implChainFault _ x _ (h.later nb))
  have HR1 := hide R
  have HWF := hide (int_wf R)
  have HB := hide nb
  have HX := hide hX
  have HR := hide bR
  have x0 : ((w.alloc (.cells #[.int .i64 x.epoch, .slice a x.ids.length d] 27)).alloc (.cells #[.int .i64 0, .int .i64 0, .slice none 0 0] 32)).cell? ⟨w.heap.size, 0, none⟩ = some (.int .i64 x.epoch) := hX.at 0 _ rfl
  have x1 : ((w.alloc (.cells #[.int .i64 x.epoch, .slice a x.ids.length d] 27)).alloc (.cells #[.int .i64 0, .int .i64 0, .slice none 0 0] 32)).cell? ⟨w.heap.size, 1, none⟩ = some (.slice a x.ids.length d) := hX.at 1 _ rfl
  clear h R nb hX bR
  go_enter Try.func28, Try.ntmps28
  go_wp2_with fail
  generalize (w.alloc (.cells #[.int .i64 x.epoch, .slice a x.ids.length d] 27)).alloc (.cells #[.int .i64 0, .int .i64 0, .slice none 0 0] 32) = W0 at *
  refine (unhide HF).mono ?_
  rintro e W ⟨rfl, hb⟩
  replace HX := hide ((unhide HX).keep hb)
  replace HR := hide ((unhide HR).keep hb)
  replace HB := hide ((unhide HB).trans (hb.mono (unhide HB).size))
  clear HF hb x0 x1
  have x0 : W.cell? ⟨w.heap.size, 0, none⟩ = some (.int .i64 x.epoch) := (unhide HX).at 0 _ rfl
  have x1 : W.cell? ⟨w.heap.size, 1, none⟩ = some (.slice a x.ids.length d) := (unhide HX).at 1 _ rfl
  have z0 : W.cell? ⟨w.heap.size + 1, 0, none⟩ = some (.int .i64 0) := (unhide HR).at 0 _ rfl
  have z1 : W.cell? ⟨w.heap.size + 1, 1, none⟩ = some (.int .i64 0) := (unhide HR).at 1 _ rfl
  have z2 : W.cell? ⟨w.heap.size + 1, 2, none⟩ = some (.slice none 0 0) := (unhide HR).at 2 _ rfl
  have ff := (unhide HR).soft
  have l0 := (unhide HR).lt
  have xl := (unhide HX).lt
  have H := hide ((unhide HR1).later (unhide HB))
  by_cases hc : chainFault x = 0
  · have ok := chainFault_zero hc
    have hlen := ok.len
    have hep := ok.epoch
    have HOK := hide ok
    have HV0 : Hid (joinR x id = _) := (if_pos hc)
    rw [hc]
    clear hc ok
    go_wp2_with fail
    refine (isNodeIdC id W).mono ?_
    rintro e w1 ⟨rfl, h1⟩
    subst w1
    cases d1 : (decide (1 ≤ id) && decide (id ≤ 5))
    · have HV : Hid (joinR x id = badChain 3) := (unhide HV0).trans (if_neg (by simpa using d1))
      clear HV0 d1
      have HB2 := hide (below_setAll (unhide HB) (w.heap.size + 1) 0 [.int .i64 (3), .int .i64 0, .slice none 0 0] (by omega))
      clear HB
      go_wp2_with fail
      refine bodyPost_ret (v := .agg #[.int .i64 (3), .int .i64 0, .slice none 0 0]) (by simp [results, Try.results28, go_sem, z0, z1, z2]) rfl ?_
      rw [unhide HV]
      exact ⟨_, rfl, own_badChain (by omega), unhide HB2⟩
    · have hid : 1 ≤ id ∧ id ≤ 5 := by simpa using d1
      have HV1 := hide ((unhide HV0).trans (if_pos hid))
      have HA := hide (containsI _ x.ids id W (unhide H))
      clear HV0 d1
      go_wp2_with fail
      refine (unhide HA).mono ?_
      rintro e w1 ⟨rfl, h1⟩
      subst w1
      clear HA
      by_cases h0 : 0 ≤ placeC x.ids id
      · have HV : Hid (joinR x id = badChain 6) := (unhide HV1).trans (if_pos h0)
        have hd0 : decide (0 ≤ placeC x.ids id) = true := by simpa using h0
        rw [hd0]
        clear HV1 hd0 h0
        have HB2 := hide (below_setAll (unhide HB) (w.heap.size + 1) 0 [.int .i64 (6), .int .i64 0, .slice none 0 0] (by omega))
        clear HB
        go_wp2_with fail
        refine bodyPost_ret (v := .agg #[.int .i64 (6), .int .i64 0, .slice none 0 0]) (by simp [results, Try.results28, go_sem, z0, z1, z2]) rfl ?_
        rw [unhide HV]
        exact ⟨_, rfl, own_badChain (by omega), unhide HB2⟩
      · have hd0 : decide (0 ≤ placeC x.ids id) = false := by simpa using h0
        have HV2 : Hid (joinR x id = if 999 ≤ x.epoch then badChain 2 else ⟨0, ⟨x.epoch + 1, x.ids ++ [id]⟩⟩) := (unhide HV1).trans (if_neg h0)
        rw [hd0]
        clear HV1 h0 hd0
        have HRI : Hid (∀ w', Below (w.heap.size + 1) W w' → (Lay.sl Lay.int).Reads w' [.slice a x.ids.length d] x.ids) := fun w' hw => (unhide HR1).later ((unhide HB).trans (hw.mono (by omega)))
        have HWJ : Hid (∀ z ∈ x.ids ++ [id], (Lit.int .i64 z).wf = true) := fun z hz => by
          rcases List.mem_append.1 hz with hz | hz
          · exact unhide HWF z hz
          · rw [List.mem_singleton.1 hz]; exact wf_of_bd (by omega)
        obtain ⟨b2, off, rfl, -⟩ := Lay.sl_addr (unhide H) (by omega)
        clear z0 z1 z2 ff
        have hRD := Box.drew (unhide HR)
        have hzD : W.heap.size ≤ W.drew.heap.size := Nat.le_refl _
        have hlW := l0
        clear l0
        go_wp2_with fail
        refine wp_region_noPanic ?_
        refine wp_region_held_drew (S := fun w' => Below (w.heap.size + 1) W w') (by kernel_rfl) (Below.refl _ _).drew (fun hHeld => ?_)
        generalize W.drew = wD at hHeld hRD hzD ⊢
        refine wpAnyH_take (i := 0) (oi := { dst := some 21, op := Go.Op.load 27 (Go.Operand.tmp 2), type := 27, pos := "l10_chain.go:127", after := #[], guard := none }) (v := ?vj0_1) rfl (by kernel_rfl) (by kernel_rfl) (by kernel_rfl) (fun _ _ _ h => h) (Or.inl ⟨by rfl, ?hj0_1⟩) hHeld ?rj0_1
        case hj0_1 =>
          intro wS hSw
          have e0 : wS.cell? ⟨w.heap.size, 0, none⟩ = some (.int .i64 x.epoch) := (hSw.cell (p := ⟨w.heap.size, 0, none⟩) (by show w.heap.size < w.heap.size + 1; omega)).trans x0
          have e1 : wS.cell? ⟨w.heap.size, 1, none⟩ = some (.slice (some ⟨b2, off, none⟩) x.ids.length d) := (hSw.cell (p := ⟨w.heap.size, 1, none⟩) (by show w.heap.size < w.heap.size + 1; omega)).trans x1
          clear hSw
          (try dsimp only at hSw)
          go_simp
          try with_reducible rfl
        case rj0_1 =>
        simp only [Act.put, List.setIfInBounds_toArray, List.set_cons_zero, List.set_cons_succ]
        refine wpAnyH_take (i := 1) (oi := { dst := some 22, op := Go.Op.fieldAddr 27 (Go.Operand.tmp 2) 1, type := 0, pos := "l10_chain.go:127", after := #[], guard := none }) (v := ?vj1_2) rfl (by kernel_rfl) (by kernel_rfl) (by kernel_rfl) (fun _ _ _ h => h) (Or.inl ⟨by rfl, ?hj1_2⟩) hHeld ?rj1_2
        case hj1_2 =>
          intro wS hSw
          (try dsimp only at hSw)
          go_simp
          try with_reducible rfl
        case rj1_2 =>
        simp only [Act.put, List.setIfInBounds_toArray, List.set_cons_zero, List.set_cons_succ]
        refine wpAnyH_take (i := 2) (oi := { dst := some 23, op := Go.Op.load 22 (Go.Operand.tmp 22), type := 22, pos := "l10_chain.go:127", after := #[{ on := 1, ground := Go.Ground.data }], guard := none }) (v := ?vj2_3) rfl (by kernel_rfl) (by kernel_rfl) (by kernel_rfl) (fun _ _ _ h => h) (Or.inl ⟨by rfl, ?hj2_3⟩) hHeld ?rj2_3
        case hj2_3 =>
          intro wS hSw
          have e1 : wS.cell? ⟨w.heap.size, 1, none⟩ = some (.slice (some ⟨b2, off, none⟩) x.ids.length d) := (hSw.cell (p := ⟨w.heap.size, 1, none⟩) (by show w.heap.size < w.heap.size + 1; omega)).trans x1
          clear hSw
          (try dsimp only at hSw)
          go_simp
          try with_reducible rfl
        case rj2_3 =>
        simp only [Act.put, List.setIfInBounds_toArray, List.set_cons_zero, List.set_cons_succ]
        refine wpAnyH_take (i := 4) (oi := { dst := some 25, op := Go.Op.move (Go.Operand.tmp 1), type := 2, pos := "l10_chain.go:127", after := #[], guard := none }) (v := ?vj4_4) rfl (by kernel_rfl) (by kernel_rfl) (by kernel_rfl) (fun _ _ _ h => h) (Or.inl ⟨by rfl, ?hj4_4⟩) hHeld ?rj4_4
        case hj4_4 =>
          intro wS hSw
          (try dsimp only at hSw)
          go_simp
          try with_reducible rfl
        case rj4_4 =>
        simp only [Act.put, List.setIfInBounds_toArray, List.set_cons_zero, List.set_cons_succ]
        refine wpAnyH_ready (rs := [3, 5]) (by kernel_rfl) (by simp) ?_
        refine AllReadyH.cons (o := { dst := some 24, op := Go.Op.call { callee := Go.Callee.value (Go.Operand.func 50), args := #[Go.Operand.tmp 23], argTypes := #[22] }, type := 22, pos := "l10_chain.go:127", after := #[{ on := 2, ground := Go.Ground.data }], guard := none }) rfl (fun K hK => ?oj3_5) (AllReadyH.cons (o := { dst := some 26, op := Go.Op.buildSlice 22 1 #[(0, Go.Operand.tmp 25)], type := 22, pos := "l10_chain.go:127", after := #[{ on := 4, ground := Go.Ground.data }], guard := none }) rfl (fun K hK => ?oj5_5) (AllReadyH.nil))
        case oj3_5 =>
          go_simp
          go_at_call 50
          refine (slClone _ _ x.ids _ (Lay.ints_reads (unhide HRI _ hHeld)) (by omega)).mono ?_
          rintro e w4 ⟨v4, rfl, O4, hb4⟩
          have hS4 := hHeld.trans (hb4.mono (by omega))
          have hz4 := hb4.size
          have hR4 := hRD.keep hb4
          replace O4 := own_mono (b' := W.heap.size) (by omega) O4
          try go_wp2_with fail
          refine hK.out _ _ hS4 (fun hHeld => ?_)
          clear hK K
          try simp only [Act.put, List.setIfInBounds_toArray, List.set_cons_zero, List.set_cons_succ]
          refine wpAnyH_ready (rs := [5]) (by kernel_rfl) (by simp) ?_
          refine AllReadyH.cons (o := { dst := some 26, op := Go.Op.buildSlice 22 1 #[(0, Go.Operand.tmp 25)], type := 22, pos := "l10_chain.go:127", after := #[{ on := 4, ground := Go.Ground.data }], guard := none }) rfl (fun K hK => ?_) AllReadyH.nil
          have b7 : Box 0 #[.int .i64 id] 2 (w4.alloc (.cells #[.int .i64 id] 2)) w4.heap.size := newBox (Nat.zero_le _)
          have nb7 : Below w4.heap.size w4 (w4.alloc (.cells #[.int .i64 id] 2)) := (Below.refl _ _).alloc (Nat.le_refl _) _
          replace O4 := own_below O4 nb7
          replace hR4 := hR4.keep nb7
          have hS7 := hS4.trans (nb7.mono (by omega))
          go_simp
          try go_wp2_with fail
          refine hK.out _ _ hS7 (fun hHeld => ?_)
          clear hK K
          try simp only [Act.put, List.setIfInBounds_toArray, List.set_cons_zero, List.set_cons_succ]
          refine wpAnyH_ready (rs := [6]) (by kernel_rfl) (by simp) ?_
          refine AllReadyH.cons (o := { dst := some 27, op := Go.Op.call { callee := Go.Callee.builtin Go.Builtin.append, args := #[Go.Operand.tmp 24, Go.Operand.tmp 26], argTypes := #[22, 22] }, type := 22, pos := "l10_chain.go:127", after := #[{ on := 3, ground := Go.Ground.data }, { on := 5, ground := Go.Ground.data }, { on := 3, ground := Go.Ground.chain }], guard := none }) rfl (fun K hK => ?_) AllReadyH.nil
          refine step_append_ints O4 (one_ints b7 (wf_of_bd (by omega))) rfl _ _ rfl rfl rfl (by simp; omega) (by simp; omega) ?_
          rintro v5 w5 O5 - hb5
          obtain ⟨a9, c9, rfl⟩ := own_shape O5
          have hS5 := hS7.trans (hb5.mono (by omega))
          have hR5 := box_lowC hR4 hb5 (by omega)
          refine hK.out _ _ hS5 (fun hHeld => ?_)
          clear hK K
          try simp only [Act.put, List.setIfInBounds_toArray, List.set_cons_zero, List.set_cons_succ]
          refine wpAnyH_ready (rs := [7]) (by kernel_rfl) (by simp) ?_
          refine AllReadyH.cons (o := { dst := some 28, op := Go.Op.call { callee := Go.Callee.value (Go.Operand.func 44), args := #[Go.Operand.tmp 21, Go.Operand.tmp 27], argTypes := #[27, 22] }, type := 32, pos := "l10_chain.go:127", after := #[{ on := 0, ground := Go.Ground.data }, { on := 6, ground := Go.Ground.data }, { on := 6, ground := Go.Ground.chain }], guard := none }) rfl (fun K hK => ?_) AllReadyH.nil
          go_simp
          go_at_call 44
          have hz5 := hS5.size
          refine (changedC x.epoch _ _ _ _ _ _ w5 (by omega)).mono ?_
          rintro e w6 ⟨c, e2, a3, n3, d3, rfl, hch, hb6⟩
          have hS6 := hS5.trans (hb6.mono (by omega))
          have hR6 := hR5.keep hb6
          have O6 := own_below O5 hb6
          have hz6 := hb6.size
          have z0 := Box.at hR6 0 _ rfl
          have z1 := Box.at hR6 1 _ rfl
          have z2 := Box.at hR6 2 _ rfl
          simp only [List.getElem_toArray, List.getElem_cons_zero, List.getElem_cons_succ] at z0 z1 z2
          have ff := Box.soft hR6
          have l0 := Box.lt hR6
          have HOW : Hid (Lay.tChainResult.OwnIn w6 [.int .i64 c, .int .i64 e2, .slice a3 n3 d3] (joinR x id) W.heap.size w6.heap.size) := by
            rcases hch with ⟨h9, rfl, rfl, q3⟩ | ⟨h9, rfl, rfl, q3⟩
            · obtain ⟨rfl, rfl, rfl⟩ := q3
              rw [unhide HV2, if_pos (by omega)]
              exact own_badChain (by decide)
            · obtain ⟨rfl, rfl, rfl⟩ := q3
              rw [unhide HV2, if_neg (by omega)]
              refine own_chainR (c := 0) (x := ⟨x.epoch + 1, x.ids ++ [id]⟩) (by decide) (wf_of_bd (by simp only; omega)) (own_intsC (zs := x.ids ++ [id]) (unhide HWJ) (by rw [List.length_append]; simp; omega) ?_)
              first | exact O6 | (rw [← unhide HM]; exact O6) | simpa using O6
          clear hch
          try go_wp2_with fail
          refine hK.out _ _ hS6 (fun hHeld => ?_)
          clear hK K
          try simp only [Act.put, List.setIfInBounds_toArray, List.set_cons_zero, List.set_cons_succ]
          refine wpAnyH_ready (rs := [8]) (by kernel_rfl) (by simp) ?_
          refine AllReadyH.cons (o := { dst := none, op := Go.Op.store 32 (Go.Operand.tmp 4) (Go.Operand.tmp 28), type := 0, pos := "l10_chain.go:127", after := #[{ on := 7, ground := Go.Ground.data }, { on := 7, ground := Go.Ground.chain }, { on := 0, ground := Go.Ground.phase }, { on := 1, ground := Go.Ground.phase }, { on := 2, ground := Go.Ground.phase }, { on := 3, ground := Go.Ground.phase }, { on := 4, ground := Go.Ground.phase }, { on := 5, ground := Go.Ground.phase }, { on := 6, ground := Go.Ground.phase }, { on := 7, ground := Go.Ground.phase }], guard := none }) rfl (fun K hK => ?_) AllReadyH.nil
          go_simp
          try go_wp2_with fail
          refine hK.out _ _ (below_setAll hS6 (w.heap.size + 1) 0 [.int .i64 c, .int .i64 e2, .slice a3 n3 d3] (by omega)) (fun hHeld => ?_)
          clear hK K
          try simp only [Act.put, List.setIfInBounds_toArray, List.set_cons_zero, List.set_cons_succ]
          refine wpAnyH_done (by kernel_rfl) ?_ _
          refine NoPanic.normal ?_
          have HO3 : Hid (Lay.tChainResult.OwnIn (setAll w6 (w.heap.size + 1) 0 [.int .i64 c, .int .i64 e2, .slice a3 n3 d3]) [.int .i64 c, .int .i64 e2, .slice a3 n3 d3] (joinR x id) W.heap.size w6.heap.size) := own_store' (s := w.heap.size + 1) (vs := [.int .i64 c, .int .i64 e2, .slice a3 n3 d3]) (unhide HOW) hlW
          have HB2 := hide ((unhide HB).trans ((below_setAll hS6 (w.heap.size + 1) 0 [.int .i64 c, .int .i64 e2, .slice a3 n3 d3] (by omega)).mono (by omega)))
          have HSF := hide (size_setAll w6 (w.heap.size + 1) 0 [.int .i64 c, .int .i64 e2, .slice a3 n3 d3])
          have hlo : w.heap.size ≤ W.heap.size := by omega
          clear hHeld hS5 hR5 O5 hS6 hR6 O6 hb6 hRD HOW
          go_wp2_with fail
          refine bodyPost_ret (v := .agg #[.int .i64 c, .int .i64 e2, .slice a3 n3 d3]) (by simp [results, Try.results28, go_sem, z0, z1, z2]) rfl ?_
          exact ⟨[.int .i64 c, .int .i64 e2, .slice a3 n3 d3], rfl, (unhide HO3).mono hlo (Nat.le_of_eq (unhide HSF).symm), unhide HB2⟩
        case oj5_5 =>
          have b7 : Box 0 #[.int .i64 id] 2 (wD.alloc (.cells #[.int .i64 id] 2)) wD.heap.size := newBox (Nat.zero_le _)
          have nb7 : Below wD.heap.size wD (wD.alloc (.cells #[.int .i64 id] 2)) := (Below.refl _ _).alloc (Nat.le_refl _) _
          have hR7 := hRD.keep nb7
          have hS7 := hHeld.trans (nb7.mono (by omega))
          have hz7 := nb7.size
          go_simp
          try go_wp2_with fail
          refine hK.out _ _ hS7 (fun hHeld => ?_)
          clear hK K
          try simp only [Act.put, List.setIfInBounds_toArray, List.set_cons_zero, List.set_cons_succ]
          refine wpAnyH_ready (rs := [3]) (by kernel_rfl) (by simp) ?_
          refine AllReadyH.cons (o := { dst := some 24, op := Go.Op.call { callee := Go.Callee.value (Go.Operand.func 50), args := #[Go.Operand.tmp 23], argTypes := #[22] }, type := 22, pos := "l10_chain.go:127", after := #[{ on := 2, ground := Go.Ground.data }], guard := none }) rfl (fun K hK => ?_) AllReadyH.nil
          go_simp
          go_at_call 50
          refine (slClone _ _ x.ids _ (Lay.ints_reads (unhide HRI _ hHeld)) (by omega)).mono ?_
          rintro e w4 ⟨v4, rfl, O4, hb4⟩
          have hS4 := hHeld.trans (hb4.mono (by omega))
          have hz4 := hb4.size
          have hR4 := hR7.keep hb4
          replace O4 := own_mono (b' := W.heap.size) (by omega) O4
          replace b7 := b7.keep hb4
          try go_wp2_with fail
          refine hK.out _ _ hS4 (fun hHeld => ?_)
          clear hK K
          try simp only [Act.put, List.setIfInBounds_toArray, List.set_cons_zero, List.set_cons_succ]
          refine wpAnyH_ready (rs := [6]) (by kernel_rfl) (by simp) ?_
          refine AllReadyH.cons (o := { dst := some 27, op := Go.Op.call { callee := Go.Callee.builtin Go.Builtin.append, args := #[Go.Operand.tmp 24, Go.Operand.tmp 26], argTypes := #[22, 22] }, type := 22, pos := "l10_chain.go:127", after := #[{ on := 3, ground := Go.Ground.data }, { on := 5, ground := Go.Ground.data }, { on := 3, ground := Go.Ground.chain }], guard := none }) rfl (fun K hK => ?_) AllReadyH.nil
          refine step_append_ints O4 (one_ints b7 (wf_of_bd (by omega))) rfl _ _ rfl rfl rfl (by simp; omega) (by omega) ?_
          rintro v5 w5 O5 - hb5
          obtain ⟨a9, c9, rfl⟩ := own_shape O5
          have hS5 := hS4.trans (hb5.mono (by omega))
          have hR5 := box_lowC hR4 hb5 (by omega)
          refine hK.out _ _ hS5 (fun hHeld => ?_)
          clear hK K
          try simp only [Act.put, List.setIfInBounds_toArray, List.set_cons_zero, List.set_cons_succ]
          refine wpAnyH_ready (rs := [7]) (by kernel_rfl) (by simp) ?_
          refine AllReadyH.cons (o := { dst := some 28, op := Go.Op.call { callee := Go.Callee.value (Go.Operand.func 44), args := #[Go.Operand.tmp 21, Go.Operand.tmp 27], argTypes := #[27, 22] }, type := 32, pos := "l10_chain.go:127", after := #[{ on := 0, ground := Go.Ground.data }, { on := 6, ground := Go.Ground.data }, { on := 6, ground := Go.Ground.chain }], guard := none }) rfl (fun K hK => ?_) AllReadyH.nil
          go_simp
          go_at_call 44
          have hz5 := hS5.size
          refine (changedC x.epoch _ _ _ _ _ _ w5 (by omega)).mono ?_
          rintro e w6 ⟨c, e2, a3, n3, d3, rfl, hch, hb6⟩
          have hS6 := hS5.trans (hb6.mono (by omega))
          have hR6 := hR5.keep hb6
          have O6 := own_below O5 hb6
          have hz6 := hb6.size
          have z0 := Box.at hR6 0 _ rfl
          have z1 := Box.at hR6 1 _ rfl
          have z2 := Box.at hR6 2 _ rfl
          simp only [List.getElem_toArray, List.getElem_cons_zero, List.getElem_cons_succ] at z0 z1 z2
          have ff := Box.soft hR6
          have l0 := Box.lt hR6
          have HOW : Hid (Lay.tChainResult.OwnIn w6 [.int .i64 c, .int .i64 e2, .slice a3 n3 d3] (joinR x id) W.heap.size w6.heap.size) := by
            rcases hch with ⟨h9, rfl, rfl, q3⟩ | ⟨h9, rfl, rfl, q3⟩
            · obtain ⟨rfl, rfl, rfl⟩ := q3
              rw [unhide HV2, if_pos (by omega)]
              exact own_badChain (by decide)
            · obtain ⟨rfl, rfl, rfl⟩ := q3
              rw [unhide HV2, if_neg (by omega)]
              refine own_chainR (c := 0) (x := ⟨x.epoch + 1, x.ids ++ [id]⟩) (by decide) (wf_of_bd (by simp only; omega)) (own_intsC (zs := x.ids ++ [id]) (unhide HWJ) (by rw [List.length_append]; simp; omega) ?_)
              first | exact O6 | (rw [← unhide HM]; exact O6) | simpa using O6
          clear hch
          try go_wp2_with fail
          refine hK.out _ _ hS6 (fun hHeld => ?_)
          clear hK K
          try simp only [Act.put, List.setIfInBounds_toArray, List.set_cons_zero, List.set_cons_succ]
          refine wpAnyH_ready (rs := [8]) (by kernel_rfl) (by simp) ?_
          refine AllReadyH.cons (o := { dst := none, op := Go.Op.store 32 (Go.Operand.tmp 4) (Go.Operand.tmp 28), type := 0, pos := "l10_chain.go:127", after := #[{ on := 7, ground := Go.Ground.data }, { on := 7, ground := Go.Ground.chain }, { on := 0, ground := Go.Ground.phase }, { on := 1, ground := Go.Ground.phase }, { on := 2, ground := Go.Ground.phase }, { on := 3, ground := Go.Ground.phase }, { on := 4, ground := Go.Ground.phase }, { on := 5, ground := Go.Ground.phase }, { on := 6, ground := Go.Ground.phase }, { on := 7, ground := Go.Ground.phase }], guard := none }) rfl (fun K hK => ?_) AllReadyH.nil
          go_simp
          try go_wp2_with fail
          refine hK.out _ _ (below_setAll hS6 (w.heap.size + 1) 0 [.int .i64 c, .int .i64 e2, .slice a3 n3 d3] (by omega)) (fun hHeld => ?_)
          clear hK K
          try simp only [Act.put, List.setIfInBounds_toArray, List.set_cons_zero, List.set_cons_succ]
          refine wpAnyH_done (by kernel_rfl) ?_ _
          refine NoPanic.normal ?_
          have HO3 : Hid (Lay.tChainResult.OwnIn (setAll w6 (w.heap.size + 1) 0 [.int .i64 c, .int .i64 e2, .slice a3 n3 d3]) [.int .i64 c, .int .i64 e2, .slice a3 n3 d3] (joinR x id) W.heap.size w6.heap.size) := own_store' (s := w.heap.size + 1) (vs := [.int .i64 c, .int .i64 e2, .slice a3 n3 d3]) (unhide HOW) hlW
          have HB2 := hide ((unhide HB).trans ((below_setAll hS6 (w.heap.size + 1) 0 [.int .i64 c, .int .i64 e2, .slice a3 n3 d3] (by omega)).mono (by omega)))
          have HSF := hide (size_setAll w6 (w.heap.size + 1) 0 [.int .i64 c, .int .i64 e2, .slice a3 n3 d3])
          have hlo : w.heap.size ≤ W.heap.size := by omega
          clear hHeld hS5 hR5 O5 hS6 hR6 O6 hb6 hRD HOW
          go_wp2_with fail
          refine bodyPost_ret (v := .agg #[.int .i64 c, .int .i64 e2, .slice a3 n3 d3]) (by simp [results, Try.results28, go_sem, z0, z1, z2]) rfl ?_
          exact ⟨[.int .i64 c, .int .i64 e2, .slice a3 n3 d3], rfl, (unhide HO3).mono hlo (Nat.le_of_eq (unhide HSF).symm), unhide HB2⟩
  · have HV := hide (joinR_bad (id := id) hc)
    have hv := chainFault_vals x
    have hc2 : (chainFault x != 0) = true := by simpa using hc
    clear hc
    generalize chainFault x = f at *
    have HB2 := hide (below_setAll (unhide HB) (w.heap.size + 1) 0 [.int .i64 (f), .int .i64 0, .slice none 0 0] (by omega))
    clear HB
    go_wp2_with fail
    refine bodyPost_ret (v := .agg #[.int .i64 (f), .int .i64 0, .slice none 0 0]) (by simp [results, Try.results28, go_sem, z0, z1, z2]) rfl ?_
    rw [unhide HV]
    exact ⟨_, rfl, own_badChain (by omega), unhide HB2⟩
end Go.Proofs.Ytceoaphcjnfphaa

namespace Go.Proofs.Ytceoaphcjnfphaa
open Go.RowKit

set_option maxHeartbeats 400000 in
theorem l1Ints (v : Value) (zs : List Int) (w : World) (h : IsInts w v zs) (hn : zs.length ≤ 100000000) :
    Calls Try.prog 47 #[v] w fun e w' => ∃ v', e = .returned v' ∧ w'.ownsRow w.heap.size 2 1 v' zs.length (zs.map (Value.int .i64)) ∧ Below w.heap.size w w' := by
  have nb : Below w.heap.size w (w.alloc (.cells #[] 2)) := (Below.refl _ _).alloc (Nat.le_refl _) _
  have O : (w.alloc (.cells #[] 2)).ownsRow w.heap.size 2 1 (.slice (some ⟨w.heap.size, 0, none⟩) 0 0) 0 [] := World.ownsRow_lit w _ 0 (Nat.le_refl _) (by unfold maxLen; omega) rfl
  have h1 := h.later nb
  obtain ⟨ao, cap, rfl, -⟩ := h
  have HB := hide nb
  clear nb
  go_enter Try.func47, Try.ntmps47
  go_wp2_with (at_builtin; refine wpList_append_ints O h1 rfl _ _ rfl rfl rfl (by omega) (by simp) ?_)
  rintro v' w' O2 - hb
  have HB2 := hide ((unhide HB).trans hb)
  clear O h1 hb HB
  go_wp2_with fail
  go_ret
  exact ⟨v', rfl, by simpa using O2, unhide HB2⟩

end Go.Proofs.Ytceoaphcjnfphaa

namespace Go.Proofs.Ytceoaphcjnfphaa
open Go.RowKit

set_option maxRecDepth 10000 in
set_option maxHeartbeats 2000000 in
theorem specJoinChainG (cs : List Value) (x : DChain) (id : Int) (w : World) (h : Lay.tChain.Reads w cs x) :
    Calls Try.prog 27 #[.agg cs.toArray, .int .i64 id] w fun e w' => ∃ v, e = .returned (.agg #[.int .i64 (joinR x id).code, .int .i64 (joinR x id).chain.epoch, v]) ∧ w'.ownsRow w.heap.size 2 1 v (joinR x id).chain.ids.length ((joinR x id).chain.ids.map (Value.int .i64)) ∧ Below w.heap.size w w' := by
  obtain ⟨a, d, rfl, R⟩ := open_Chain h
  have nb : Below w.heap.size w ((w.alloc (.cells #[.int .i64 x.epoch, .slice a x.ids.length d] 27)).alloc (.cells #[.int .i64 0, .int .i64 0, .slice none 0 0] 32)) := ((Below.refl _ _).alloc (Nat.le_refl _) _).alloc (by simp) _
  have hX : ChainAt ((w.alloc (.cells #[.int .i64 x.epoch, .slice a x.ids.length d] 27)).alloc (.cells #[.int .i64 0, .int .i64 0, .slice none 0 0] 32)) w.heap.size (.slice a x.ids.length d) x := (newBox (Nat.zero_le _)).grow _
  have bR : Box 0 #[.int .i64 0, .int .i64 0, .slice none 0 0] 32 ((w.alloc (.cells #[.int .i64 x.epoch, .slice a x.ids.length d] 27)).alloc (.cells #[.int .i64 0, .int .i64 0, .slice none 0 0] 32)) (w.heap.size + 1) := newBoxAt (Nat.zero_le _) (by simp)
  have HF := hide (l10FaultC w.heap.size a d x _ hX (R.later nb))
  have HA := hide (l10AtC w.heap.size a d x id _ hX (R.later nb))
  have HR1 := hide R
  have HWF := hide (int_wf R)
  have x0 := Box.at hX 0 _ rfl
  have x1 := Box.at hX 1 _ rfl
  have z0 := Box.at bR 0 _ rfl
  have z1 := Box.at bR 1 _ rfl
  have z2 := Box.at bR 2 _ rfl
  simp only [List.getElem_toArray, List.getElem_cons_zero, List.getElem_cons_succ] at x0 x1 z0 z1 z2
  have ff := Box.soft bR
  have l0 := Box.lt bR
  have xl := Box.lt hX
  have HB := hide nb
  have HX := hide hX
  have HR := hide bR
  have HXX := HX
  clear HXX h R nb hX bR
  go_enter Try.func27, Try.ntmps27
  go_wp2_with fail
  generalize (w.alloc (.cells #[.int .i64 x.epoch, .slice a x.ids.length d] 27)).alloc (.cells #[.int .i64 0, .int .i64 0, .slice none 0 0] 32) = W at *
  refine (unhide HF).mono ?_
  rintro e w1 ⟨rfl, h1⟩
  subst w1
  clear HF
  by_cases hc : chainFault x = 0
  · have ok := chainFault_zero hc
    have hlen := ok.len
    have hep := ok.epoch
    have HV0 : Hid (joinR x id = _) := (if_pos hc)
    rw [hc]
    clear hc ok
    go_wp2_with fail
    refine (node10C id W).mono ?_
    rintro e w1 ⟨rfl, h1⟩
    subst w1
    cases d1 : (decide (1 ≤ id) && decide (id ≤ 5))
    · have HV : Hid (joinR x id = badChain 3) := (unhide HV0).trans (if_neg (by simpa using d1))
      clear HV0 d1 HA
      have HB2 := hide (below_setAll (unhide HB) (w.heap.size + 1) 0 [.int .i64 (3), .int .i64 0, .slice none 0 0] (by omega))
      clear HB
      go_wp2_with fail
      refine bodyPost_ret (v := .agg #[.int .i64 (3), .int .i64 0, .slice none 0 0]) (by simp [results, Try.results27, go_sem, z0, z1, z2]) rfl ?_
      rw [unhide HV]
      exact ⟨_, rfl, World.ownsRow_nil _ _ _ _, unhide HB2⟩
    · have hid : 1 ≤ id ∧ id ≤ 5 := by simpa using d1
      have HV1 := hide ((unhide HV0).trans (if_pos hid))
      clear HV0 d1
      go_wp2_with fail
      refine (unhide HA).mono ?_
      rintro e w1 ⟨rfl, h1⟩
      subst w1
      clear HA
      by_cases h0 : 0 ≤ placeC x.ids id
      · have HV : Hid (joinR x id = badChain 6) := (unhide HV1).trans (if_pos h0)
        have hd0 : decide (0 ≤ placeC x.ids id) = true := by simpa using h0
        clear HV1
        generalize placeC x.ids id = p at *
        have HB2 := hide (below_setAll (unhide HB) (w.heap.size + 1) 0 [.int .i64 (6), .int .i64 0, .slice none 0 0] (by omega))
        clear HB
        go_wp2_with fail
        refine bodyPost_ret (v := .agg #[.int .i64 (6), .int .i64 0, .slice none 0 0]) (by simp [results, Try.results27, go_sem, z0, z1, z2]) rfl ?_
        rw [unhide HV]
        exact ⟨_, rfl, World.ownsRow_nil _ _ _ _, unhide HB2⟩
      · have hd0 : decide (0 ≤ placeC x.ids id) = false := by simpa using h0
        have HV2 := hide ((unhide HV1).trans (if_neg h0))
        clear HV1
        generalize placeC x.ids id = p at *
        by_cases h2 : 999 ≤ x.epoch
        · have HV : Hid (joinR x id = badChain 2) := (unhide HV2).trans (if_pos h2)
          have hd2 : decide ((999 : Int) ≤ x.epoch) = true := by simpa using h2
          clear HV2
          have HB2 := hide (below_setAll (unhide HB) (w.heap.size + 1) 0 [.int .i64 (2), .int .i64 0, .slice none 0 0] (by omega))
          clear HB
          go_wp2_with fail
          refine bodyPost_ret (v := .agg #[.int .i64 (2), .int .i64 0, .slice none 0 0]) (by simp [results, Try.results27, go_sem, z0, z1, z2]) rfl ?_
          rw [unhide HV]
          exact ⟨_, rfl, World.ownsRow_nil _ _ _ _, unhide HB2⟩
        · have HV : Hid (joinR x id = ⟨0, ⟨x.epoch + 1, x.ids ++ [id]⟩⟩) := (unhide HV2).trans (if_neg h2)
          have hd2 : decide ((999 : Int) ≤ x.epoch) = false := by simpa using h2
          have HRI : Hid (∀ w', Below (w.heap.size + 1) W w' → (Lay.sl Lay.int).Reads w' [.slice a x.ids.length d] x.ids) := fun w' hw => (unhide HR1).later ((unhide HB).trans (hw.mono (by omega)))
          have HWJ : Hid (∀ z ∈ x.ids ++ [id], (Lit.int .i64 z).wf = true) := fun z hz => by
            rcases List.mem_append.1 hz with hz | hz
            · exact unhide HWF z hz
            · rw [List.mem_singleton.1 hz]; exact wf_of_bd (by omega)
          clear HV2 z0 z1 z2 ff l0
          have hRD := Box.drew (unhide HR)
          have hzD : W.heap.size ≤ W.drew.heap.size := Nat.le_refl _
          have hlW := Box.lt (unhide HR)
          go_wp2_with fail
          refine wp_region_noPanic ?_
          refine wp_region_held_drew (S := fun w' => Below (w.heap.size + 1) W w') (by kernel_rfl) (Below.refl _ _).drew (fun hHeld => ?_)
          generalize W.drew = wD at hHeld hRD hzD ⊢
          refine wpAnyH_take (i := 0) (oi := { dst := some 23, op := Go.Op.fieldAddr 27 (Go.Operand.tmp 2) 0, type := 0, pos := "l10_chain.go:117", after := #[], guard := none }) (v := ?vj0_1) rfl (by kernel_rfl) (by kernel_rfl) (by kernel_rfl) (fun _ _ _ h => h) (Or.inl ⟨by rfl, ?hj0_1⟩) hHeld ?rj0_1
          case hj0_1 =>
            intro wS hSw
            (try dsimp only at hSw)
            go_simp
            try with_reducible rfl
          case rj0_1 =>
          simp only [Act.put, List.setIfInBounds_toArray, List.set_cons_zero, List.set_cons_succ]
          refine wpAnyH_take (i := 1) (oi := { dst := some 24, op := Go.Op.load 2 (Go.Operand.tmp 23), type := 2, pos := "l10_chain.go:117", after := #[{ on := 0, ground := Go.Ground.data }], guard := none }) (v := ?vj1_2) rfl (by kernel_rfl) (by kernel_rfl) (by kernel_rfl) (fun _ _ _ h => h) (Or.inl ⟨by rfl, ?hj1_2⟩) hHeld ?rj1_2
          case hj1_2 =>
            intro wS hSw
            have e1 : wS.cell? ⟨w.heap.size, 0, none⟩ = some (.int .i64 x.epoch) := (hSw.cell (p := ⟨w.heap.size, 0, none⟩) (by show w.heap.size < w.heap.size + 1; omega)).trans x0
            clear hSw
            (try dsimp only at hSw)
            go_simp
            try with_reducible rfl
          case rj1_2 =>
          simp only [Act.put, List.setIfInBounds_toArray, List.set_cons_zero, List.set_cons_succ]
          refine wpAnyH_take (i := 2) (oi := { dst := some 25, op := Go.Op.binOp Go.BinOp.add 2 (Go.Operand.tmp 24) (Go.Operand.const (Go.Value.int Go.IntKind.i64 1)) 2, type := 2, pos := "l10_chain.go:117", after := #[{ on := 1, ground := Go.Ground.data }], guard := none }) (v := ?vj2_3) rfl (by kernel_rfl) (by kernel_rfl) (by kernel_rfl) (fun _ _ _ h => h) (Or.inl ⟨by rfl, ?hj2_3⟩) hHeld ?rj2_3
          case hj2_3 =>
            intro wS hSw
            clear hSw
            have hwr : IntKind.i64.wrap (x.epoch + 1) = x.epoch + 1 := by rw [IntKind.wrap_i64]; omega
            (try dsimp only at hSw)
            go_simp
            try with_reducible rfl
          case rj2_3 =>
          simp only [Act.put, List.setIfInBounds_toArray, List.set_cons_zero, List.set_cons_succ]
          refine wpAnyH_take (i := 3) (oi := { dst := some 26, op := Go.Op.fieldAddr 27 (Go.Operand.tmp 2) 1, type := 0, pos := "l10_chain.go:117", after := #[], guard := none }) (v := ?vj3_4) rfl (by kernel_rfl) (by kernel_rfl) (by kernel_rfl) (fun _ _ _ h => h) (Or.inl ⟨by rfl, ?hj3_4⟩) hHeld ?rj3_4
          case hj3_4 =>
            intro wS hSw
            (try dsimp only at hSw)
            go_simp
            try with_reducible rfl
          case rj3_4 =>
          simp only [Act.put, List.setIfInBounds_toArray, List.set_cons_zero, List.set_cons_succ]
          refine wpAnyH_take (i := 4) (oi := { dst := some 27, op := Go.Op.load 22 (Go.Operand.tmp 26), type := 22, pos := "l10_chain.go:117", after := #[{ on := 3, ground := Go.Ground.data }], guard := none }) (v := ?vj4_5) rfl (by kernel_rfl) (by kernel_rfl) (by kernel_rfl) (fun _ _ _ h => h) (Or.inl ⟨by rfl, ?hj4_5⟩) hHeld ?rj4_5
          case hj4_5 =>
            intro wS hSw
            have e1 : wS.cell? ⟨w.heap.size, 1, none⟩ = some (.slice a x.ids.length d) := (hSw.cell (p := ⟨w.heap.size, 1, none⟩) (by show w.heap.size < w.heap.size + 1; omega)).trans x1
            clear hSw
            (try dsimp only at hSw)
            go_simp
            try with_reducible rfl
          case rj4_5 =>
          simp only [Act.put, List.setIfInBounds_toArray, List.set_cons_zero, List.set_cons_succ]
          refine wpAnyH_take (i := 6) (oi := { dst := some 29, op := Go.Op.move (Go.Operand.tmp 1), type := 2, pos := "l10_chain.go:117", after := #[], guard := none }) (v := ?vj6_6) rfl (by kernel_rfl) (by kernel_rfl) (by kernel_rfl) (fun _ _ _ h => h) (Or.inl ⟨by rfl, ?hj6_6⟩) hHeld ?rj6_6
          case hj6_6 =>
            intro wS hSw
            (try dsimp only at hSw)
            go_simp
            try with_reducible rfl
          case rj6_6 =>
          simp only [Act.put, List.setIfInBounds_toArray, List.set_cons_zero, List.set_cons_succ]
          refine wpAnyH_ready (rs := [5, 7]) (by kernel_rfl) (by simp) ?_
          refine AllReadyH.cons (o := { dst := some 28, op := Go.Op.call { callee := Go.Callee.value (Go.Operand.func 47), args := #[Go.Operand.tmp 27], argTypes := #[22] }, type := 22, pos := "l10_chain.go:117", after := #[{ on := 4, ground := Go.Ground.data }], guard := none }) rfl (fun K hK => ?oj5_7) (AllReadyH.cons (o := { dst := some 30, op := Go.Op.buildSlice 22 1 #[(0, Go.Operand.tmp 29)], type := 22, pos := "l10_chain.go:117", after := #[{ on := 6, ground := Go.Ground.data }], guard := none }) rfl (fun K hK => ?oj7_7) (AllReadyH.nil))
          case oj5_7 =>
            go_simp
            go_at_call 47
            refine (l1Ints _ x.ids _ (Lay.ints_reads (unhide HRI _ hHeld)) (by omega)).mono ?_
            rintro e w4 ⟨v4, rfl, O4, hb4⟩
            have hS4 := hHeld.trans (hb4.mono (by omega))
            have hz4 := hb4.size
            have hR4 := hRD.keep hb4
            replace O4 := own_mono (b' := W.heap.size) (by omega) O4
            try go_wp2_with fail
            refine hK.out _ _ hS4 (fun hHeld => ?_)
            clear hK K
            try simp only [Act.put, List.setIfInBounds_toArray, List.set_cons_zero, List.set_cons_succ]
            refine wpAnyH_ready (rs := [7]) (by kernel_rfl) (by simp) ?_
            refine AllReadyH.cons (o := { dst := some 30, op := Go.Op.buildSlice 22 1 #[(0, Go.Operand.tmp 29)], type := 22, pos := "l10_chain.go:117", after := #[{ on := 6, ground := Go.Ground.data }], guard := none }) rfl (fun K hK => ?_) AllReadyH.nil
            have b7 : Box 0 #[.int .i64 id] 2 ((w4).alloc (.cells #[.int .i64 id] 2)) (w4).heap.size := newBox (Nat.zero_le _)
            have nb7 : Below (w4).heap.size (w4) ((w4).alloc (.cells #[.int .i64 id] 2)) := (Below.refl _ _).alloc (Nat.le_refl _) _
            replace O4 := own_below O4 nb7
            replace hR4 := hR4.keep nb7
            have hS7 := hS4.trans (nb7.mono (by omega))
            go_simp
            try go_wp2_with fail
            refine hK.out _ _ hS7 (fun hHeld => ?_)
            clear hK K
            try simp only [Act.put, List.setIfInBounds_toArray, List.set_cons_zero, List.set_cons_succ]
            refine wpAnyH_ready (rs := [8]) (by kernel_rfl) (by simp) ?_
            refine AllReadyH.cons (o := { dst := some 31, op := Go.Op.call { callee := Go.Callee.builtin Go.Builtin.append, args := #[Go.Operand.tmp 28, Go.Operand.tmp 30], argTypes := #[22, 22] }, type := 22, pos := "l10_chain.go:117", after := #[{ on := 5, ground := Go.Ground.data }, { on := 7, ground := Go.Ground.data }, { on := 5, ground := Go.Ground.chain }], guard := none }) rfl (fun K hK => ?_) AllReadyH.nil
            refine step_append_ints O4 (one_ints b7 (wf_of_bd (by omega))) rfl _ _ rfl rfl rfl (by simp; omega) (by simp; omega) ?_
            rintro v5 w5 O5 - hb5
            obtain ⟨a9, c9, rfl⟩ := own_shape O5
            have hS5 := hS7.trans (hb5.mono (by omega))
            have hR5 := box_lowC hR4 hb5 (by omega)
            have z0 := Box.at hR5 0 _ rfl
            have z1 := Box.at hR5 1 _ rfl
            have z2 := Box.at hR5 2 _ rfl
            simp only [List.getElem_toArray, List.getElem_cons_zero, List.getElem_cons_succ] at z0 z1 z2
            have ff := Box.soft hR5
            have l0 := Box.lt hR5
            refine hK.out _ _ hS5 (fun hHeld => ?_)
            clear hK K
            try simp only [Act.put, List.setIfInBounds_toArray, List.set_cons_zero, List.set_cons_succ]
            refine wpAnyH_take (i := 9) (oi := { dst := some 32, op := Go.Op.build 27 #[(0, Go.Operand.tmp 25), (1, Go.Operand.tmp 31)], type := 27, pos := "l10_chain.go:117", after := #[{ on := 2, ground := Go.Ground.data }, { on := 8, ground := Go.Ground.data }], guard := none }) (v := ?vj9_8) rfl (by kernel_rfl) (by kernel_rfl) (by kernel_rfl) (fun _ _ _ h => h) (Or.inl ⟨by rfl, ?hj9_8⟩) hHeld ?rj9_8
            case hj9_8 =>
              intro wS hSw
              clear hSw
              have hwr : IntKind.i64.wrap (x.epoch + 1) = x.epoch + 1 := by rw [IntKind.wrap_i64]; omega
              (try dsimp only at hSw)
              go_simp
              try with_reducible rfl
            case rj9_8 =>
            simp only [Act.put, List.setIfInBounds_toArray, List.set_cons_zero, List.set_cons_succ]
            refine wpAnyH_take (i := 10) (oi := { dst := some 33, op := Go.Op.build 32 #[(1, Go.Operand.tmp 32)], type := 32, pos := "l10_chain.go:117", after := #[{ on := 9, ground := Go.Ground.data }], guard := none }) (v := ?vj10_9) rfl (by kernel_rfl) (by kernel_rfl) (by kernel_rfl) (fun _ _ _ h => h) (Or.inl ⟨by rfl, ?hj10_9⟩) hHeld ?rj10_9
            case hj10_9 =>
              intro wS hSw
              (try dsimp only at hSw)
              go_simp
              try with_reducible rfl
            case rj10_9 =>
            simp only [Act.put, List.setIfInBounds_toArray, List.set_cons_zero, List.set_cons_succ]
            refine wpAnyH_ready (rs := [11]) (by kernel_rfl) (by simp) ?_
            refine AllReadyH.cons (o := { dst := none, op := Go.Op.store 32 (Go.Operand.tmp 4) (Go.Operand.tmp 33), type := 0, pos := "l10_chain.go:117", after := #[{ on := 10, ground := Go.Ground.data }, { on := 8, ground := Go.Ground.chain }, { on := 0, ground := Go.Ground.phase }, { on := 1, ground := Go.Ground.phase }, { on := 2, ground := Go.Ground.phase }, { on := 3, ground := Go.Ground.phase }, { on := 4, ground := Go.Ground.phase }, { on := 5, ground := Go.Ground.phase }, { on := 6, ground := Go.Ground.phase }, { on := 7, ground := Go.Ground.phase }, { on := 8, ground := Go.Ground.phase }, { on := 9, ground := Go.Ground.phase }, { on := 10, ground := Go.Ground.phase }], guard := none }) rfl (fun K hK => ?_) AllReadyH.nil
            go_simp
            try go_wp2_with fail
            refine hK.out _ _ (below_setAll hS5 (w.heap.size + 1) 0 [.int .i64 0, .int .i64 (x.epoch + 1), .slice a9 (x.ids.length + [id].length) c9] (by omega)) (fun hHeld => ?_)
            clear hK K
            try simp only [Act.put, List.setIfInBounds_toArray, List.set_cons_zero, List.set_cons_succ]
            refine wpAnyH_done (by kernel_rfl) ?_ _
            refine NoPanic.normal ?_
            have hz5 := hS5.size
            have hO2 : (setAll w5 (w.heap.size + 1) 0 [.int .i64 0, .int .i64 (x.epoch + 1), .slice a9 (x.ids.length + [id].length) c9]).ownsRow W.heap.size 2 1 (.slice a9 (x.ids.length + [id].length) c9) (x.ids ++ [id]).length ((x.ids ++ [id]).map (Value.int .i64)) := by
              rw [List.length_append, List.map_append]
              exact own_setC (a := ⟨w.heap.size + 1, 2, none⟩) (own_setC (a := ⟨w.heap.size + 1, 1, none⟩) (own_setC (a := ⟨w.heap.size + 1, 0, none⟩) O5 hlW (.int .i64 0)) hlW (.int .i64 (x.epoch + 1))) hlW _
            have HO3 := hide (own_mono (b' := w.heap.size) (by omega) hO2)
            have HB2 := hide ((unhide HB).trans ((below_setAll hS5 (w.heap.size + 1) 0 [.int .i64 0, .int .i64 (x.epoch + 1), .slice a9 (x.ids.length + [id].length) c9] (by omega)).mono (by omega)))
            clear hHeld hS5 hR5 O5 hb5 hO2 hRD
            go_wp2_with fail
            refine bodyPost_ret (v := .agg #[.int .i64 0, .int .i64 (x.epoch + 1), .slice a9 (x.ids.length + [id].length) c9]) (by simp [results, Try.results27, go_sem, z0, z1, z2]) rfl ?_
            rw [unhide HV]
            exact ⟨_, rfl, unhide HO3, unhide HB2⟩
          case oj7_7 =>
            have b7 : Box 0 #[.int .i64 id] 2 ((wD).alloc (.cells #[.int .i64 id] 2)) (wD).heap.size := newBox (Nat.zero_le _)
            have nb7 : Below (wD).heap.size (wD) ((wD).alloc (.cells #[.int .i64 id] 2)) := (Below.refl _ _).alloc (Nat.le_refl _) _
            have hR7 := hRD.keep nb7
            have hS7 := hHeld.trans (nb7.mono (by omega))
            have hz7 := nb7.size
            go_simp
            try go_wp2_with fail
            refine hK.out _ _ hS7 (fun hHeld => ?_)
            clear hK K
            try simp only [Act.put, List.setIfInBounds_toArray, List.set_cons_zero, List.set_cons_succ]
            refine wpAnyH_ready (rs := [5]) (by kernel_rfl) (by simp) ?_
            refine AllReadyH.cons (o := { dst := some 28, op := Go.Op.call { callee := Go.Callee.value (Go.Operand.func 47), args := #[Go.Operand.tmp 27], argTypes := #[22] }, type := 22, pos := "l10_chain.go:117", after := #[{ on := 4, ground := Go.Ground.data }], guard := none }) rfl (fun K hK => ?_) AllReadyH.nil
            go_simp
            go_at_call 47
            refine (l1Ints _ x.ids _ (Lay.ints_reads (unhide HRI _ hHeld)) (by omega)).mono ?_
            rintro e w4 ⟨v4, rfl, O4, hb4⟩
            have hS4 := hHeld.trans (hb4.mono (by omega))
            have hz4 := hb4.size
            have hR4 := hR7.keep hb4
            replace O4 := own_mono (b' := W.heap.size) (by omega) O4
            replace b7 := b7.keep hb4
            try go_wp2_with fail
            refine hK.out _ _ hS4 (fun hHeld => ?_)
            clear hK K
            try simp only [Act.put, List.setIfInBounds_toArray, List.set_cons_zero, List.set_cons_succ]
            refine wpAnyH_ready (rs := [8]) (by kernel_rfl) (by simp) ?_
            refine AllReadyH.cons (o := { dst := some 31, op := Go.Op.call { callee := Go.Callee.builtin Go.Builtin.append, args := #[Go.Operand.tmp 28, Go.Operand.tmp 30], argTypes := #[22, 22] }, type := 22, pos := "l10_chain.go:117", after := #[{ on := 5, ground := Go.Ground.data }, { on := 7, ground := Go.Ground.data }, { on := 5, ground := Go.Ground.chain }], guard := none }) rfl (fun K hK => ?_) AllReadyH.nil
            refine step_append_ints O4 (one_ints b7 (wf_of_bd (by omega))) rfl _ _ rfl rfl rfl (by simp; omega) (by omega) ?_
            rintro v5 w5 O5 - hb5
            obtain ⟨a9, c9, rfl⟩ := own_shape O5
            have hS5 := hS4.trans (hb5.mono (by omega))
            have hR5 := box_lowC hR4 hb5 (by omega)
            have z0 := Box.at hR5 0 _ rfl
            have z1 := Box.at hR5 1 _ rfl
            have z2 := Box.at hR5 2 _ rfl
            simp only [List.getElem_toArray, List.getElem_cons_zero, List.getElem_cons_succ] at z0 z1 z2
            have ff := Box.soft hR5
            have l0 := Box.lt hR5
            refine hK.out _ _ hS5 (fun hHeld => ?_)
            clear hK K
            try simp only [Act.put, List.setIfInBounds_toArray, List.set_cons_zero, List.set_cons_succ]
            refine wpAnyH_take (i := 9) (oi := { dst := some 32, op := Go.Op.build 27 #[(0, Go.Operand.tmp 25), (1, Go.Operand.tmp 31)], type := 27, pos := "l10_chain.go:117", after := #[{ on := 2, ground := Go.Ground.data }, { on := 8, ground := Go.Ground.data }], guard := none }) (v := ?vj9_10) rfl (by kernel_rfl) (by kernel_rfl) (by kernel_rfl) (fun _ _ _ h => h) (Or.inl ⟨by rfl, ?hj9_10⟩) hHeld ?rj9_10
            case hj9_10 =>
              intro wS hSw
              clear hSw
              have hwr : IntKind.i64.wrap (x.epoch + 1) = x.epoch + 1 := by rw [IntKind.wrap_i64]; omega
              (try dsimp only at hSw)
              go_simp
              try with_reducible rfl
            case rj9_10 =>
            simp only [Act.put, List.setIfInBounds_toArray, List.set_cons_zero, List.set_cons_succ]
            refine wpAnyH_take (i := 10) (oi := { dst := some 33, op := Go.Op.build 32 #[(1, Go.Operand.tmp 32)], type := 32, pos := "l10_chain.go:117", after := #[{ on := 9, ground := Go.Ground.data }], guard := none }) (v := ?vj10_11) rfl (by kernel_rfl) (by kernel_rfl) (by kernel_rfl) (fun _ _ _ h => h) (Or.inl ⟨by rfl, ?hj10_11⟩) hHeld ?rj10_11
            case hj10_11 =>
              intro wS hSw
              (try dsimp only at hSw)
              go_simp
              try with_reducible rfl
            case rj10_11 =>
            simp only [Act.put, List.setIfInBounds_toArray, List.set_cons_zero, List.set_cons_succ]
            refine wpAnyH_ready (rs := [11]) (by kernel_rfl) (by simp) ?_
            refine AllReadyH.cons (o := { dst := none, op := Go.Op.store 32 (Go.Operand.tmp 4) (Go.Operand.tmp 33), type := 0, pos := "l10_chain.go:117", after := #[{ on := 10, ground := Go.Ground.data }, { on := 8, ground := Go.Ground.chain }, { on := 0, ground := Go.Ground.phase }, { on := 1, ground := Go.Ground.phase }, { on := 2, ground := Go.Ground.phase }, { on := 3, ground := Go.Ground.phase }, { on := 4, ground := Go.Ground.phase }, { on := 5, ground := Go.Ground.phase }, { on := 6, ground := Go.Ground.phase }, { on := 7, ground := Go.Ground.phase }, { on := 8, ground := Go.Ground.phase }, { on := 9, ground := Go.Ground.phase }, { on := 10, ground := Go.Ground.phase }], guard := none }) rfl (fun K hK => ?_) AllReadyH.nil
            go_simp
            try go_wp2_with fail
            refine hK.out _ _ (below_setAll hS5 (w.heap.size + 1) 0 [.int .i64 0, .int .i64 (x.epoch + 1), .slice a9 (x.ids.length + [id].length) c9] (by omega)) (fun hHeld => ?_)
            clear hK K
            try simp only [Act.put, List.setIfInBounds_toArray, List.set_cons_zero, List.set_cons_succ]
            refine wpAnyH_done (by kernel_rfl) ?_ _
            refine NoPanic.normal ?_
            have hz5 := hS5.size
            have hO2 : (setAll w5 (w.heap.size + 1) 0 [.int .i64 0, .int .i64 (x.epoch + 1), .slice a9 (x.ids.length + [id].length) c9]).ownsRow W.heap.size 2 1 (.slice a9 (x.ids.length + [id].length) c9) (x.ids ++ [id]).length ((x.ids ++ [id]).map (Value.int .i64)) := by
              rw [List.length_append, List.map_append]
              exact own_setC (a := ⟨w.heap.size + 1, 2, none⟩) (own_setC (a := ⟨w.heap.size + 1, 1, none⟩) (own_setC (a := ⟨w.heap.size + 1, 0, none⟩) O5 hlW (.int .i64 0)) hlW (.int .i64 (x.epoch + 1))) hlW _
            have HO3 := hide (own_mono (b' := w.heap.size) (by omega) hO2)
            have HB2 := hide ((unhide HB).trans ((below_setAll hS5 (w.heap.size + 1) 0 [.int .i64 0, .int .i64 (x.epoch + 1), .slice a9 (x.ids.length + [id].length) c9] (by omega)).mono (by omega)))
            clear hHeld hS5 hR5 O5 hb5 hO2 hRD
            go_wp2_with fail
            refine bodyPost_ret (v := .agg #[.int .i64 0, .int .i64 (x.epoch + 1), .slice a9 (x.ids.length + [id].length) c9]) (by simp [results, Try.results27, go_sem, z0, z1, z2]) rfl ?_
            rw [unhide HV]
            exact ⟨_, rfl, unhide HO3, unhide HB2⟩
  · have HV := hide (joinR_bad (id := id) hc)
    have hv := chainFault_vals x
    have hc2 : (chainFault x != 0) = true := by simpa using hc
    clear hc HA
    generalize chainFault x = f at *
    have HB2 := hide (below_setAll (unhide HB) (w.heap.size + 1) 0 [.int .i64 (f), .int .i64 0, .slice none 0 0] (by omega))
    clear HB
    go_wp2_with fail
    refine bodyPost_ret (v := .agg #[.int .i64 (f), .int .i64 0, .slice none 0 0]) (by simp [results, Try.results27, go_sem, z0, z1, z2]) rfl ?_
    rw [unhide HV]
    exact ⟨_, rfl, World.ownsRow_nil _ _ _ _, unhide HB2⟩
theorem joinR_parts (x : DChain) (id : Int) (hx : ∀ z ∈ x.ids, (Lit.int .i64 z).wf = true) : (Lit.int .i64 (joinR x id).code).wf = true ∧ (Lit.int .i64 (joinR x id).chain.epoch).wf = true ∧ (∀ z ∈ (joinR x id).chain.ids, (Lit.int .i64 z).wf = true) ∧ (joinR x id).chain.ids.length ≤ 6 := by
  have hv := chainFault_vals x
  have nb : ∀ c : Int, -1000000000 ≤ c ∧ c ≤ 1000000000 → (Lit.int .i64 (badChain c).code).wf = true ∧ (Lit.int .i64 (badChain c).chain.epoch).wf = true ∧ (∀ z ∈ (badChain c).chain.ids, (Lit.int .i64 z).wf = true) ∧ (badChain c).chain.ids.length ≤ 6 := fun c hc => ⟨wf_of_bd hc, by show (Lit.int .i64 0).wf = true; decide, (fun z hz => by cases hz), by simp [badChain, noChain]⟩
  unfold joinR
  split
  · rename_i h1
    have ok := chainFault_zero h1
    split
    · rename_i h2
      split
      · exact nb 6 (by omega)
      · split
        · exact nb 2 (by omega)
        · refine ⟨by show (Lit.int .i64 0).wf = true; decide, wf_of_bd (by have := ok.epoch; simp only [joinCh]; omega), fun z hz => ?_, ?_⟩
          · rcases List.mem_append.1 hz with hz | hz
            · exact hx z hz
            · rw [List.mem_singleton.1 hz]; exact wf_of_bd (by omega)
          · have := ok.len
            simp only [joinCh, List.length_append, List.length_singleton]
            omega
    · exact nb 3 (by omega)
  · exact nb _ (by omega)
theorem specJoinChain (cs : List Value) (x : DChain) (id : Int) (w : World) (h : Lay.tChain.Reads w cs x) :
    Calls Try.prog 27 #[.agg cs.toArray, .int .i64 id] w fun e w' => ∃ cs, e = .returned (.agg cs.toArray) ∧ Lay.tChainResult.OwnIn w' cs (joinR x id) w.heap.size w'.heap.size ∧ Below w.heap.size w w' := by
  obtain ⟨a, d, rfl, R⟩ := open_Chain h
  obtain ⟨p1, p2, p3, p4⟩ := joinR_parts x id (int_wf R)
  refine (specJoinChainG _ x id w h).mono ?_
  rintro e w' ⟨v, rfl, hO, hb⟩
  exact ⟨_, rfl, own_chainR (x := (joinR x id).chain) p1 p2 (own_intsC p3 (by omega) hO), hb⟩
end Go.Proofs.Ytceoaphcjnfphaa

namespace Go.Proofs.Ytceoaphcjnfphaa
open Go.RowKit

theorem ints_cnt (l : List Int) : cntAll Lay.int.cnt l = l.length := by
  induction l with
  | nil => rfl
  | cons y ys ih => simp only [cntAll, List.length_cons, ih]; show 1 + ys.length = _; omega
theorem chain_few (y : DChainResult) (hl : y.chain.ids.length ≤ 1000) : Lay.tChainResult.vcnt y ≤ 100000000 := by
  rw [vcnt_ChainResult, vcnt_Chain]
  show cntAll Lay.int.cnt y.chain.ids ≤ 100000000
  rw [ints_cnt]
  omega
theorem badChain_few (c : Int) : Lay.tChainResult.vcnt (badChain c) ≤ 100000000 := chain_few _ (by simp [badChain, noChain])
theorem newChainR_few (n : Int) : Lay.tChainResult.vcnt (newChainR n) ≤ 100000000 := by
  unfold newChainR
  split
  · refine chain_few _ ?_
    show (upToC n.toNat).length ≤ 1000
    rw [upToC_len]
    omega
  · exact badChain_few _
theorem cutR_few (x : DChain) (id : Int) : Lay.tChainResult.vcnt (cutR x id) ≤ 100000000 := by
  unfold cutR
  split
  · rename_i h
    have hl := (chainFault_zero h).len
    split
    · exact badChain_few _
    · split
      · exact badChain_few _
      · split
        · exact badChain_few _
        · refine chain_few _ ?_
          show (x.ids.filter fun z => z != id).length ≤ 1000
          have := List.length_filter_le (fun z => z != id) x.ids
          omega
  · exact badChain_few _
theorem joinR_few (x : DChain) (id : Int) : Lay.tChainResult.vcnt (joinR x id) ≤ 100000000 := by
  unfold joinR
  split
  · rename_i h
    have hl := (chainFault_zero h).len
    split
    · split
      · exact badChain_few _
      · split
        · exact badChain_few _
        · refine chain_few _ ?_
          show (x.ids ++ [id]).length ≤ 1000
          simp
          omega
    · exact badChain_few _
  · exact badChain_few _
end Go.Proofs.Ytceoaphcjnfphaa

namespace Go.Proofs.Ytceoaphcjnfphaa
open Go.RowKit

theorem lawJoinChain (cs : List Value) (x : DChain) (id : Int) (w : World) (h : Lay.tChain.Reads w cs x) :
    Calls Try.prog 8 #[.agg cs.toArray, .int .i64 id] w fun e w' => e = .returned (.bool true) ∧ Below w.heap.size w w' := by
  by_cases hn : Lay.tChain.sz x ≤ 1048576
  · refine lawx_JoinChain cs x id (joinR x id) w h hn (fun W a ha => (specJoinChain a x id W ha).mono fun e w' q => ?_) (fun W a ha => implJoinChain a x id W ha) (joinR_few x id)
    obtain ⟨cs, q1, q2, q3⟩ := q
    exact ⟨cs, q1, q2.reads, q3⟩
  · exact lawover_JoinChain cs x id w h (by omega)

end Go.Proofs.Ytceoaphcjnfphaa

namespace Go.Proofs.Ytceoaphcjnfphaa
open Go.RowKit Go.ChangeShapes Go.WideShapes

/-- Whatever reads as data of the type t lies as A says. -/
def Opens {α : Type} (A : Lay α) (t : TypeId) : Prop :=
  ∀ {H : Type} (enc : TypeId × Value → H) (W : World) (base : Nat) (spare : Nat → Bool) (held : Bool) (fuel : Nat) (cs : List Value) (x : DataW H × List MemPlace), DataW.trod enc Try.prog W base spare held fuel t cs = some x → ∃ y, A.Reads W cs y

theorem reads_pair {α β : Type} {A : Lay α} {B : Lay β} {W : World} {c1 c2 : List Value} {x : α} {y : β} (h : A.Reads W c1 x) (k : B.Reads W c2 y) : (Lay.pair A B).Reads W (c1 ++ c2) (x, y) := by
  obtain ⟨b1, h⟩ := h
  obtain ⟨b2, k⟩ := k
  exact ⟨b1 ++ b2, c1, c2, b1, b2, rfl, rfl, h, k⟩

theorem opens_int {t : TypeId} (ht : Try.prog.underlying t = some (.int .i64)) : Opens Lay.int t := by
  intro H enc W base spare held fuel cs x h
  obtain ⟨n, rfl, -, hw⟩ := DataW.trod_int ht h
  exact ⟨n, [], rfl, hw, rfl⟩
theorem opens_bool {t : TypeId} (ht : Try.prog.underlying t = some .bool) : Opens Lay.bool t := by
  intro H enc W base spare held fuel cs x h
  obtain ⟨b, rfl, -⟩ := DataW.trod_bool ht h
  exact ⟨b, [], rfl, rfl⟩
theorem opens_str {t : TypeId} (ht : Try.prog.underlying t = some .string) : Opens Lay.str t := by
  intro H enc W base spare held fuel cs x h
  obtain ⟨s, rfl, -, -⟩ := DataW.trod_string ht h
  exact ⟨s, [], rfl, rfl⟩

theorem opens_sl {α : Type} {A : Lay α} {t e : TypeId} (ht : Try.prog.underlying t = some (.slice e)) (hn : Try.prog.cellsOf e = A.n) (h0 : 0 < A.n) (h : Opens A e) : Opens (Lay.sl A) t := by
  intro H enc W base spare held fuel cs x hx
  rcases Go.Deep.open_slice ht hx with ⟨rfl, -⟩ | ⟨a, len, cap, m, n, D, Pl, rfl, hb, hl, hm, hmm, -, hel⟩
  · exact ⟨[], [], none, 0, rfl, ⟨Nat.le_refl _, by simp⟩, Or.inl ⟨rfl, rfl⟩⟩
  · have hlm : len ≤ m := by rw [hmm]; split <;> omega
    rw [hn] at hel
    have each : ∀ i, i < len → ∃ q : List Value × α, (∀ j, j < A.n → W.cell? (a.add (i * A.n + j)) = q.1[j]?) ∧ q.1.length = A.n ∧ A.Reads W q.1 q.2 := by
      intro i hi
      obtain ⟨cs', h1, h2⟩ := hel i (by omega)
      obtain ⟨-, hlen, hc⟩ := World.cells?_some h1
      obtain ⟨y, hy⟩ := h enc W base spare held n cs' _ h2
      refine ⟨(cs', y), fun j hj => ?_, hlen, hy⟩
      have := hc j hj
      rw [Addr.add_add] at this
      exact this
    by_cases hp : 0 < len
    · obtain ⟨b, off, spot⟩ := a
      obtain ⟨q0, c0, l0, -⟩ := each 0 hp
      have hc0 := c0 0 h0
      have hs0 : ∃ v, W.cell? ((⟨b, off, spot⟩ : Addr).add (0 * A.n + 0)) = some v := ⟨_, hc0.trans (List.getElem?_eq_getElem (by omega))⟩
      obtain ⟨v0, hv0⟩ := hs0
      have hspot : spot = none := by simpa [Addr.add] using World.cell?_spot hv0
      subst hspot
      have hbl : b < W.heap.size := by
        have := World.block_lt_of_cell? _ _ hv0
        simpa [Addr.add] using this
      have pick : ∃ f : (i : Nat) → i < len → List Value × α, ∀ i (hi : i < len), (∀ j, j < A.n → W.cell? ((⟨b, off, none⟩ : Addr).add (i * A.n + j)) = (f i hi).1[j]?) ∧ (f i hi).1.length = A.n ∧ A.Reads W (f i hi).1 (f i hi).2 :=
        ⟨fun i hi => Classical.choose (each i hi), fun i hi => Classical.choose_spec (each i hi)⟩
      obtain ⟨f, hf⟩ := pick
      have pick2 : ∃ g : (i : Nat) → i < len → List Nat, ∀ i (hi : i < len), A.lies W (f i hi).1 (f i hi).2 (g i hi) :=
        ⟨fun i hi => Classical.choose (hf i hi).2.2, fun i hi => Classical.choose_spec (hf i hi).2.2⟩
      obtain ⟨g, hg⟩ := pick2
      refine ⟨(List.finRange len).map (fun i => (f i.1 i.2).2), b :: ((List.finRange len).map (fun i => g i.1 i.2)).flatten, some ⟨b, off, none⟩, cap, by simp, ⟨by simpa using hl, by simp; unfold maxLen at hm; omega⟩, Or.inr ⟨b, off, (List.finRange len).map (fun i => (f i.1 i.2).1), (List.finRange len).map (fun i => g i.1 i.2), rfl, hbl, rfl, by simp, by simp, fun j h1 h2 h3 => ?_⟩⟩
      have hj : j < len := by simpa using h1
      refine ⟨fun k hk => ?_, ?_⟩
      · have := (hf j hj).1 k hk
        rw [Addr.add_lit] at this
        simpa [Nat.add_assoc] using this
      · simpa using hg j hj
    · obtain rfl : len = 0 := by omega
      exact ⟨[], [], some a, cap, rfl, ⟨hl, by simp⟩, Or.inl ⟨rfl, rfl⟩⟩

theorem open_arg {α : Type} {A : Lay α} {t : TypeId} (O : Opens A t) {H : Type} {enc : TypeId × Value → H} {W : World} {base : Nat} {spare : Nat → Bool} {held : Bool} {a : Option Addr} {len cap : Nat} {d : DataW H} {p : List MemPlace}
    (h : DataW.Trod enc Try.prog W base spare held t (.slice a len cap) d p) : ∃ y, A.Reads W [.slice a len cap] y := by
  obtain ⟨fuel, hf⟩ := h
  exact O enc W base spare held fuel _ _ (by simpa [Value.cells] using hf)
theorem open_arg_st {α : Type} {A : Lay α} {t : TypeId} (O : Opens A t) {H : Type} {enc : TypeId × Value → H} {W : World} {base : Nat} {spare : Nat → Bool} {held : Bool} {cs : Array Value} {d : DataW H} {p : List MemPlace}
    (h : DataW.Trod enc Try.prog W base spare held t (.agg cs) d p) : ∃ y, A.Reads W cs.toList y := by
  obtain ⟨fuel, hf⟩ := h
  exact O enc W base spare held fuel _ _ (by simpa [Value.cells] using hf)

end Go.Proofs.Ytceoaphcjnfphaa

namespace Go.Proofs.Ytceoaphcjnfphaa
open Go.RowKit

set_option maxRecDepth 10000 in
theorem opens_Chain : Opens Lay.tChain 24 := by
  intro H enc W base spare held fuel cs x h
  obtain ⟨xs, n, _, _, hlen, hl, hfi⟩ := DataW.trod_struct Try.underlying24 h
  rw [show Try.prog.cellsOf 24 = 2 by kernel_rfl] at hlen
  match cs, hlen with
  | [c0, c1], _ =>
  match xs, hl with
  | [y0, y1], _ =>
  have z0 : Try.prog.cellsOf 2 = 1 := by kernel_rfl
  have z1 : Try.prog.cellsOf 22 = 1 := by kernel_rfl
  have f0 : DataW.trod enc Try.prog W base spare held n 2 (([c0, c1].drop 0).take (Try.prog.cellsOf 2)) = some y0 := hfi 0 _ rfl
  rw [z0] at f0
  obtain ⟨d0, r0⟩ := (opens_int Try.underlying2) enc W base spare held n _ _ f0
  have f1 : DataW.trod enc Try.prog W base spare held n 22 (([c0, c1].drop 1).take (Try.prog.cellsOf 22)) = some y1 := hfi 1 _ rfl
  rw [z1] at f1
  obtain ⟨d1, r1⟩ := (opens_sl Try.underlying22 (by kernel_rfl) (by decide) (opens_int Try.underlying2)) enc W base spare held n _ _ f1
  exact ⟨⟨d0, d1⟩, (reads_pair r0 r1)⟩

end Go.Proofs.Ytceoaphcjnfphaa
