/-
  Texts of this proof in one: ImplCutC, StepInt.
  Their conditions stand in their theorems.
-/
import Derived.Test.YtceoaphcjnfphaaCc04
import Derived.Deep.RegionHeld3

namespace Go.Proofs.Ytceoaphcjnfphaa
open Go.RowKit

theorem cut_parts {x : DChain} (ok : ChainOK x) {id : Int} {k : Nat} (hk : k < x.ids.length) (hat : x.ids[k] = id) (hb : ∀ j (hj : j < k), x.ids[j] ≠ id) : (x.ids.filter fun z => z != id) = x.ids.take k ++ x.ids.drop (k + 1) := by
  have e : x.ids = x.ids.take k ++ (id :: x.ids.drop (k + 1)) := by
    rw [← hat, ← List.drop_eq_getElem_cons hk, List.take_append_drop]
  have hnd := ok.nodup
  rw [e] at hnd
  obtain ⟨-, h2, -⟩ := List.nodup_append.1 hnd
  have h3 := (List.nodup_cons.1 h2).1
  conv => lhs; rw [e]
  rw [List.filter_append, List.filter_cons_of_neg (by simp)]
  congr 1
  · rw [List.filter_eq_self]
    intro z hz
    obtain ⟨j, hj, rfl⟩ := List.getElem_of_mem hz
    rw [List.length_take] at hj
    rw [List.getElem_take]
    simpa using hb j (by omega)
  · rw [List.filter_eq_self]
    intro z hz
    simp only [bne_iff_ne, ne_eq]
    intro e2
    rw [e2] at hz
    exact h3 hz
set_option maxRecDepth 10000 in
set_option maxHeartbeats 2000000 in
theorem implCutChain (cs : List Value) (x : DChain) (id : Int) (w : World) (h : Lay.tChain.Reads w cs x) :
    Calls Try.prog 25 #[.agg cs.toArray, .int .i64 id] w fun e w' => ∃ cs, e = .returned (.agg cs.toArray) ∧ Lay.tChainResult.OwnIn w' cs (cutR x id) w.heap.size w'.heap.size ∧ Below w.heap.size w w' := by
  obtain ⟨a, d, rfl, R⟩ := open_Chain h
  have nb : Below w.heap.size w ((w.alloc (.cells #[.int .i64 x.epoch, .slice a x.ids.length d] 27)).alloc (.cells #[.int .i64 0, .int .i64 0, .slice none 0 0] 32)) := ((Below.refl _ _).alloc (Nat.le_refl _) _).alloc (by simp) _
  have hX : ChainAt ((w.alloc (.cells #[.int .i64 x.epoch, .slice a x.ids.length d] 27)).alloc (.cells #[.int .i64 0, .int .i64 0, .slice none 0 0] 32)) w.heap.size (.slice a x.ids.length d) x := (newBox (Nat.zero_le _)).grow _
  have bR : Box 0 #[.int .i64 0, .int .i64 0, .slice none 0 0] 32 ((w.alloc (.cells #[.int .i64 x.epoch, .slice a x.ids.length d] 27)).alloc (.cells #[.int .i64 0, .int .i64 0, .slice none 0 0] 32)) (w.heap.size + 1) := newBoxAt (Nat.zero_le _) (by simp)
  have HF := hide (implChainFault _ x _ (h.later nb))
  have HR1 := hide R
  have HWF := hide (int_wf R)
  have HB := hide nb
  have HX := hide hX
  have HR := hide bR
  have x0 : ((w.alloc (.cells #[.int .i64 x.epoch, .slice a x.ids.length d] 27)).alloc (.cells #[.int .i64 0, .int .i64 0, .slice none 0 0] 32)).cell? ⟨w.heap.size, 0, none⟩ = some (.int .i64 x.epoch) := hX.at 0 _ rfl
  have x1 : ((w.alloc (.cells #[.int .i64 x.epoch, .slice a x.ids.length d] 27)).alloc (.cells #[.int .i64 0, .int .i64 0, .slice none 0 0] 32)).cell? ⟨w.heap.size, 1, none⟩ = some (.slice a x.ids.length d) := hX.at 1 _ rfl
  clear h R nb hX bR
  go_enter Try.func25, Try.ntmps25
  go_wp2_with fail
  generalize (w.alloc (.cells #[.int .i64 x.epoch, .slice a x.ids.length d] 27)).alloc (.cells #[.int .i64 0, .int .i64 0, .slice none 0 0] 32) = W0 at *
  refine (unhide HF).mono ?_
  rintro e W ⟨rfl, hb⟩
  replace HX := hide ((unhide HX).keep hb)
  replace HR := hide ((unhide HR).keep hb)
  replace HB := hide ((unhide HB).trans (hb.mono (unhide HB).size))
  clear HF hb x0 x1
  have x0 : W.cell? ⟨w.heap.size, 0, none⟩ = some (.int .i64 x.epoch) := (unhide HX).at 0 _ rfl
  have x1 : W.cell? ⟨w.heap.size, 1, none⟩ = some (.slice a x.ids.length d) := (unhide HX).at 1 _ rfl
  have z0 : W.cell? ⟨w.heap.size + 1, 0, none⟩ = some (.int .i64 0) := (unhide HR).at 0 _ rfl
  have z1 : W.cell? ⟨w.heap.size + 1, 1, none⟩ = some (.int .i64 0) := (unhide HR).at 1 _ rfl
  have z2 : W.cell? ⟨w.heap.size + 1, 2, none⟩ = some (.slice none 0 0) := (unhide HR).at 2 _ rfl
  have ff := (unhide HR).soft
  have l0 := (unhide HR).lt
  have xl := (unhide HX).lt
  have H := hide ((unhide HR1).later (unhide HB))
  by_cases hc : chainFault x = 0
  · have ok := chainFault_zero hc
    have hlen := ok.len
    have hep := ok.epoch
    have HOK := hide ok
    have HV0 : Hid (cutR x id = _) := (if_pos hc)
    rw [hc]
    clear hc ok
    have HA := hide (indexI _ x.ids id W (unhide H))
    go_wp2_with fail
    refine (unhide HA).mono ?_
    rintro e w1 ⟨rfl, h1⟩
    subst w1
    clear HA
    by_cases h0 : placeC x.ids id < 0
    · have HV : Hid (cutR x id = badChain 4) := (unhide HV0).trans (if_pos h0)
      have hd0 : decide (placeC x.ids id < 0) = true := by simpa using h0
      clear HV0
      generalize placeC x.ids id = p at *
      have HB2 := hide (below_setAll (unhide HB) (w.heap.size + 1) 0 [.int .i64 (4), .int .i64 0, .slice none 0 0] (by omega))
      clear HB
      go_wp2_with fail
      refine bodyPost_ret (v := .agg #[.int .i64 (4), .int .i64 0, .slice none 0 0]) (by simp [results, Try.results25, go_sem, z0, z1, z2]) rfl ?_
      rw [unhide HV]
      exact ⟨_, rfl, own_badChain (by omega), unhide HB2⟩
    · obtain ⟨k, hk, hpk, hat, hbef⟩ := placeC_get (by omega : 0 ≤ placeC x.ids id)
      have HCUT := hide (cut_parts (unhide HOK) hk hat hbef)
      have HV1 := hide ((unhide HV0).trans (if_neg h0))
      rw [hpk]
      clear HV0 h0 hat hbef hpk
      by_cases h1 : x.ids.length = 1
      · have HV : Hid (cutR x id = badChain 8) := (unhide HV1).trans (if_pos h1)
        have hd1 : ((x.ids.length : Int) == 1) = true := by rw [h1]; rfl
        clear HV1 h1
        have HB2 := hide (below_setAll (unhide HB) (w.heap.size + 1) 0 [.int .i64 (8), .int .i64 0, .slice none 0 0] (by omega))
        clear HB
        go_wp2_with fail
        refine bodyPost_ret (v := .agg #[.int .i64 (8), .int .i64 0, .slice none 0 0]) (by simp [results, Try.results25, go_sem, z0, z1, z2]) rfl ?_
        rw [unhide HV]
        exact ⟨_, rfl, own_badChain (by omega), unhide HB2⟩
      · have HV2 : Hid (cutR x id = if 999 ≤ x.epoch then badChain 2 else ⟨0, ⟨x.epoch + 1, x.ids.take k ++ x.ids.drop (k + 1)⟩⟩) := by
          refine ((unhide HV1).trans (if_neg h1)).trans ?_
          rw [cutCh, unhide HCUT]
        have hd1 : ((x.ids.length : Int) == 1) = false := by rw [beq_eq_false_iff_ne]; omega
        have hcap := (unhide H).cap
        clear HV1 h1 HCUT
        obtain ⟨b2, off, rfl, -⟩ := Lay.sl_addr (unhide H) (by omega)
        have HWJ : Hid (∀ z ∈ x.ids.take k ++ x.ids.drop (k + 1), (Lit.int .i64 z).wf = true) := fun z hz => by
          rcases List.mem_append.1 hz with hz | hz
          · exact unhide HWF z (List.mem_of_mem_take hz)
          · exact unhide HWF z (List.mem_of_mem_drop hz)
        have HP1 : Hid (∀ w', Below (w.heap.size + 1) W w' → (Lay.sl Lay.int).Reads w' [.slice (some ⟨b2, off, none⟩) k d] (x.ids.take k)) := fun w' hw => take_reads ((unhide HR1).later ((unhide HB).trans (hw.mono (by omega)))) k (by omega)
        have hkd : k ≤ d := by omega
        by_cases hend : k + 1 = d
        · have HP2 : Hid (∀ w', Below (w.heap.size + 1) W w' → (Lay.sl Lay.int).Reads w' [.slice (some ⟨b2, off, none⟩) 0 0] (x.ids.drop (k + 1))) := fun w' hw => by
            have e0 : x.ids.drop (k + 1) = [] := List.drop_eq_nil_of_le (by omega)
            rw [e0]
            exact Lay.reads_ints ⟨_, _, rfl, by simp, fun hp => by simp at hp⟩ (fun _ _ e => by simp) (by simp)
          have hln : x.ids.length = k + 1 := by omega
          have HLN := hide hln
          clear hln
          clear z0 z1 z2 ff
          have hRD := Box.drew (unhide HR)
          have hzD : W.heap.size ≤ W.drew.heap.size := Nat.le_refl _
          have hlW := l0
          clear l0
          go_wp2_with fail
          refine wp_region_noPanic ?_
          refine wp_region_held_drew (S := fun w' => Below (w.heap.size + 1) W w') (by kernel_rfl) (Below.refl _ _).drew (fun hHeld => ?_)
          generalize W.drew = wD at hHeld hRD hzD ⊢
          refine wpAnyH_take (i := 0) (oi := { dst := some 25, op := Go.Op.load 27 (Go.Operand.tmp 2), type := 27, pos := "l10_chain.go:114", after := #[], guard := none }) (v := ?vc0_1) rfl (by kernel_rfl) (by kernel_rfl) (by kernel_rfl) (fun _ _ _ h => h) (Or.inl ⟨by rfl, ?hc0_1⟩) hHeld ?rc0_1
          case hc0_1 =>
            intro wS hSw
            have e0 : wS.cell? ⟨w.heap.size, 0, none⟩ = some (.int .i64 x.epoch) := (hSw.cell (p := ⟨w.heap.size, 0, none⟩) (by show w.heap.size < w.heap.size + 1; omega)).trans x0
            have e1 : wS.cell? ⟨w.heap.size, 1, none⟩ = some (.slice (some ⟨b2, off, none⟩) x.ids.length d) := (hSw.cell (p := ⟨w.heap.size, 1, none⟩) (by show w.heap.size < w.heap.size + 1; omega)).trans x1
            clear hSw
            (try dsimp only at hSw)
            go_simp
            try with_reducible rfl
          case rc0_1 =>
          simp only [Act.put, List.setIfInBounds_toArray, List.set_cons_zero, List.set_cons_succ]
          refine wpAnyH_take (i := 1) (oi := { dst := some 26, op := Go.Op.fieldAddr 27 (Go.Operand.tmp 2) 1, type := 0, pos := "l10_chain.go:114", after := #[], guard := none }) (v := ?vc1_2) rfl (by kernel_rfl) (by kernel_rfl) (by kernel_rfl) (fun _ _ _ h => h) (Or.inl ⟨by rfl, ?hc1_2⟩) hHeld ?rc1_2
          case hc1_2 =>
            intro wS hSw
            (try dsimp only at hSw)
            go_simp
            try with_reducible rfl
          case rc1_2 =>
          simp only [Act.put, List.setIfInBounds_toArray, List.set_cons_zero, List.set_cons_succ]
          refine wpAnyH_take (i := 2) (oi := { dst := some 27, op := Go.Op.load 22 (Go.Operand.tmp 26), type := 22, pos := "l10_chain.go:114", after := #[{ on := 1, ground := Go.Ground.data }], guard := none }) (v := ?vc2_3) rfl (by kernel_rfl) (by kernel_rfl) (by kernel_rfl) (fun _ _ _ h => h) (Or.inl ⟨by rfl, ?hc2_3⟩) hHeld ?rc2_3
          case hc2_3 =>
            intro wS hSw
            have e1 : wS.cell? ⟨w.heap.size, 1, none⟩ = some (.slice (some ⟨b2, off, none⟩) x.ids.length d) := (hSw.cell (p := ⟨w.heap.size, 1, none⟩) (by show w.heap.size < w.heap.size + 1; omega)).trans x1
            clear hSw
            (try dsimp only at hSw)
            go_simp
            try with_reducible rfl
          case rc2_3 =>
          simp only [Act.put, List.setIfInBounds_toArray, List.set_cons_zero, List.set_cons_succ]
          refine wpAnyH_take (i := 3) (oi := { dst := some 28, op := Go.Op.move (Go.Operand.tmp 6), type := 3, pos := "l10_chain.go:114", after := #[], guard := none }) (v := ?vc3_4) rfl (by kernel_rfl) (by kernel_rfl) (by kernel_rfl) (fun _ _ _ h => h) (Or.inl ⟨by rfl, ?hc3_4⟩) hHeld ?rc3_4
          case hc3_4 =>
            intro wS hSw
            (try dsimp only at hSw)
            go_simp
            try with_reducible rfl
          case rc3_4 =>
          simp only [Act.put, List.setIfInBounds_toArray, List.set_cons_zero, List.set_cons_succ]
          refine wpAnyH_take (i := 4) (oi := { dst := some 29, op := Go.Op.slice 22 (Go.Operand.tmp 27) none (some (Go.Operand.tmp 28)) none, type := 22, pos := "l10_chain.go:114", after := #[{ on := 2, ground := Go.Ground.data }, { on := 3, ground := Go.Ground.data }], guard := none }) (v := ?vc4_5) rfl (by kernel_rfl) (by kernel_rfl) (by kernel_rfl) (fun _ _ _ h => h) (Or.inl ⟨by rfl, ?hc4_5⟩) hHeld ?rc4_5
          case hc4_5 =>
            intro wS hSw
            clear hSw
            (try dsimp only at hSw)
            go_simp
            try with_reducible rfl
          case rc4_5 =>
          simp only [Act.put, List.setIfInBounds_toArray, List.set_cons_zero, List.set_cons_succ]
          refine wpAnyH_take (i := 5) (oi := { dst := some 30, op := Go.Op.fieldAddr 27 (Go.Operand.tmp 2) 1, type := 0, pos := "l10_chain.go:114", after := #[], guard := none }) (v := ?vc5_6) rfl (by kernel_rfl) (by kernel_rfl) (by kernel_rfl) (fun _ _ _ h => h) (Or.inl ⟨by rfl, ?hc5_6⟩) hHeld ?rc5_6
          case hc5_6 =>
            intro wS hSw
            (try dsimp only at hSw)
            go_simp
            try with_reducible rfl
          case rc5_6 =>
          simp only [Act.put, List.setIfInBounds_toArray, List.set_cons_zero, List.set_cons_succ]
          refine wpAnyH_take (i := 6) (oi := { dst := some 31, op := Go.Op.load 22 (Go.Operand.tmp 30), type := 22, pos := "l10_chain.go:114", after := #[{ on := 5, ground := Go.Ground.data }], guard := none }) (v := ?vc6_7) rfl (by kernel_rfl) (by kernel_rfl) (by kernel_rfl) (fun _ _ _ h => h) (Or.inl ⟨by rfl, ?hc6_7⟩) hHeld ?rc6_7
          case hc6_7 =>
            intro wS hSw
            have e1 : wS.cell? ⟨w.heap.size, 1, none⟩ = some (.slice (some ⟨b2, off, none⟩) x.ids.length d) := (hSw.cell (p := ⟨w.heap.size, 1, none⟩) (by show w.heap.size < w.heap.size + 1; omega)).trans x1
            clear hSw
            (try dsimp only at hSw)
            go_simp
            try with_reducible rfl
          case rc6_7 =>
          simp only [Act.put, List.setIfInBounds_toArray, List.set_cons_zero, List.set_cons_succ]
          refine wpAnyH_take (i := 7) (oi := { dst := some 32, op := Go.Op.move (Go.Operand.tmp 6), type := 3, pos := "l10_chain.go:114", after := #[], guard := none }) (v := ?vc7_8) rfl (by kernel_rfl) (by kernel_rfl) (by kernel_rfl) (fun _ _ _ h => h) (Or.inl ⟨by rfl, ?hc7_8⟩) hHeld ?rc7_8
          case hc7_8 =>
            intro wS hSw
            (try dsimp only at hSw)
            go_simp
            try with_reducible rfl
          case rc7_8 =>
          simp only [Act.put, List.setIfInBounds_toArray, List.set_cons_zero, List.set_cons_succ]
          refine wpAnyH_take (i := 8) (oi := { dst := some 33, op := Go.Op.binOp Go.BinOp.add 3 (Go.Operand.tmp 32) (Go.Operand.const (Go.Value.int Go.IntKind.i64 1)) 3, type := 3, pos := "l10_chain.go:114", after := #[{ on := 7, ground := Go.Ground.data }], guard := none }) (v := ?vc8_9) rfl (by kernel_rfl) (by kernel_rfl) (by kernel_rfl) (fun _ _ _ h => h) (Or.inl ⟨by rfl, ?hc8_9⟩) hHeld ?rc8_9
          case hc8_9 =>
            intro wS hSw
            clear hSw
            have hwr : IntKind.i64.wrap ((k : Int) + 1) = (k : Int) + 1 := by rw [IntKind.wrap_i64]; omega
            (try dsimp only at hSw)
            go_simp
            try with_reducible rfl
          case rc8_9 =>
          simp only [Act.put, List.setIfInBounds_toArray, List.set_cons_zero, List.set_cons_succ]
          refine wpAnyH_take (i := 9) (oi := { dst := some 34, op := Go.Op.slice 22 (Go.Operand.tmp 31) (some (Go.Operand.tmp 33)) none none, type := 22, pos := "l10_chain.go:114", after := #[{ on := 6, ground := Go.Ground.data }, { on := 8, ground := Go.Ground.data }], guard := none }) (v := ?vc9_10) rfl (by kernel_rfl) (by kernel_rfl) (by kernel_rfl) (fun _ _ _ h => h) (Or.inl ⟨by rfl, ?hc9_10⟩) hHeld ?rc9_10
          case hc9_10 =>
            intro wS hSw
            clear hSw
            have h8 : (0 : Int) ≤ (k : Int) + 1 := by omega
            have h9 : (k : Int) + 1 ≤ (x.ids.length : Int) := by omega
            (try dsimp only at hSw)
            go_simp
            try with_reducible rfl
          case rc9_10 =>
          simp only [Act.put, List.setIfInBounds_toArray, List.set_cons_zero, List.set_cons_succ]
          refine wpAnyH_ready (rs := [10]) (by kernel_rfl) (by simp) ?_
          refine AllReadyH.cons (o := { dst := some 35, op := Go.Op.buildSlice 62 2 #[(0, Go.Operand.tmp 29), (1, Go.Operand.tmp 34)], type := 62, pos := "l10_chain.go:114", after := #[{ on := 4, ground := Go.Ground.data }, { on := 9, ground := Go.Ground.data }], guard := none }) rfl (fun K hK => ?_) AllReadyH.nil
          have b7 : Box 0 #[.slice (some ⟨b2, off, none⟩) k d, .slice (some ⟨b2, off, none⟩) 0 0] 22 (wD.alloc (.cells #[.slice (some ⟨b2, off, none⟩) k d, .slice (some ⟨b2, off, none⟩) 0 0] 22)) wD.heap.size := newBox (Nat.zero_le _)
          have nb7 : Below wD.heap.size wD (wD.alloc (.cells #[.slice (some ⟨b2, off, none⟩) k d, .slice (some ⟨b2, off, none⟩) 0 0] 22)) := (Below.refl _ _).alloc (Nat.le_refl _) _
          have hR7 := hRD.keep nb7
          have hS7 := hHeld.trans (nb7.mono (by omega))
          have hz7 := nb7.size
          go_simp
          try go_wp2_with fail
          refine hK.out _ _ hS7 (fun hHeld => ?_)
          clear hK K
          try simp only [Act.put, List.setIfInBounds_toArray, List.set_cons_zero, List.set_cons_succ]
          refine wpAnyH_ready (rs := [11]) (by kernel_rfl) (by simp) ?_
          refine AllReadyH.cons (o := { dst := some 36, op := Go.Op.call { callee := Go.Callee.value (Go.Operand.func 45), args := #[Go.Operand.tmp 35], argTypes := #[62] }, type := 22, pos := "l10_chain.go:114", after := #[{ on := 10, ground := Go.Ground.data }], guard := none }) rfl (fun K hK => ?_) AllReadyH.nil
          go_simp
          go_at_call 45
          refine (implConcatI _ _ _ (x.ids.take k) (x.ids.drop (k + 1)) _ (b7.at 0 _ rfl) (b7.at 1 _ rfl) (Lay.ints_reads (unhide HP1 _ hHeld)) (Lay.ints_reads (unhide HP2 _ hHeld)) (by rw [List.length_take]; omega) (by rw [List.length_drop]; omega)).mono ?_
          rintro e w5 ⟨v5, rfl, O5, hb5⟩
          obtain ⟨m, hm⟩ : ∃ m, m = (x.ids.take k ++ x.ids.drop (k + 1)).length := ⟨_, rfl⟩
          rw [← hm] at O5
          have HM := hide hm
          clear hm
          obtain ⟨a9, c9, rfl⟩ := own_shape O5
          have hS5 := hS7.trans (hb5.mono (by omega))
          have hR5 := hR7.keep hb5
          replace O5 := own_mono (b' := W.heap.size) (by omega) O5
          try go_wp2_with fail
          refine hK.out _ _ hS5 (fun hHeld => ?_)
          clear hK K
          try simp only [Act.put, List.setIfInBounds_toArray, List.set_cons_zero, List.set_cons_succ]
          refine wpAnyH_ready (rs := [12]) (by kernel_rfl) (by simp) ?_
          refine AllReadyH.cons (o := { dst := some 37, op := Go.Op.call { callee := Go.Callee.value (Go.Operand.func 44), args := #[Go.Operand.tmp 25, Go.Operand.tmp 36], argTypes := #[27, 22] }, type := 32, pos := "l10_chain.go:114", after := #[{ on := 0, ground := Go.Ground.data }, { on := 11, ground := Go.Ground.data }, { on := 11, ground := Go.Ground.chain }], guard := none }) rfl (fun K hK => ?_) AllReadyH.nil
          go_simp
          go_at_call 44
          have hz5 := hS5.size
          refine (changedC x.epoch _ _ _ _ _ _ w5 (by omega)).mono ?_
          rintro e w6 ⟨c, e2, a3, n3, d3, rfl, hch, hb6⟩
          have hS6 := hS5.trans (hb6.mono (by omega))
          have hR6 := hR5.keep hb6
          have O6 := own_below O5 hb6
          have hz6 := hb6.size
          have z0 := Box.at hR6 0 _ rfl
          have z1 := Box.at hR6 1 _ rfl
          have z2 := Box.at hR6 2 _ rfl
          simp only [List.getElem_toArray, List.getElem_cons_zero, List.getElem_cons_succ] at z0 z1 z2
          have ff := Box.soft hR6
          have l0 := Box.lt hR6
          have HOW : Hid (Lay.tChainResult.OwnIn w6 [.int .i64 c, .int .i64 e2, .slice a3 n3 d3] (cutR x id) W.heap.size w6.heap.size) := by
            rcases hch with ⟨h9, rfl, rfl, q3⟩ | ⟨h9, rfl, rfl, q3⟩
            · obtain ⟨rfl, rfl, rfl⟩ := q3
              rw [unhide HV2, if_pos (by omega)]
              exact own_badChain (by decide)
            · obtain ⟨rfl, rfl, rfl⟩ := q3
              rw [unhide HV2, if_neg (by omega)]
              refine own_chainR (c := 0) (x := ⟨x.epoch + 1, x.ids.take k ++ x.ids.drop (k + 1)⟩) (by decide) (wf_of_bd (by simp only; omega)) (own_intsC (zs := x.ids.take k ++ x.ids.drop (k + 1)) (unhide HWJ) (by rw [List.length_append, List.length_take, List.length_drop]; omega) ?_)
              first | exact O6 | (rw [← unhide HM]; exact O6) | simpa using O6
          clear hch
          try go_wp2_with fail
          refine hK.out _ _ hS6 (fun hHeld => ?_)
          clear hK K
          try simp only [Act.put, List.setIfInBounds_toArray, List.set_cons_zero, List.set_cons_succ]
          refine wpAnyH_ready (rs := [13]) (by kernel_rfl) (by simp) ?_
          refine AllReadyH.cons (o := { dst := none, op := Go.Op.store 32 (Go.Operand.tmp 4) (Go.Operand.tmp 37), type := 0, pos := "l10_chain.go:114", after := #[{ on := 12, ground := Go.Ground.data }, { on := 12, ground := Go.Ground.chain }, { on := 0, ground := Go.Ground.phase }, { on := 1, ground := Go.Ground.phase }, { on := 2, ground := Go.Ground.phase }, { on := 3, ground := Go.Ground.phase }, { on := 4, ground := Go.Ground.phase }, { on := 5, ground := Go.Ground.phase }, { on := 6, ground := Go.Ground.phase }, { on := 7, ground := Go.Ground.phase }, { on := 8, ground := Go.Ground.phase }, { on := 9, ground := Go.Ground.phase }, { on := 10, ground := Go.Ground.phase }, { on := 11, ground := Go.Ground.phase }, { on := 12, ground := Go.Ground.phase }], guard := none }) rfl (fun K hK => ?_) AllReadyH.nil
          go_simp
          try go_wp2_with fail
          refine hK.out _ _ (below_setAll hS6 (w.heap.size + 1) 0 [.int .i64 c, .int .i64 e2, .slice a3 n3 d3] (by omega)) (fun hHeld => ?_)
          clear hK K
          try simp only [Act.put, List.setIfInBounds_toArray, List.set_cons_zero, List.set_cons_succ]
          refine wpAnyH_done (by kernel_rfl) ?_ _
          refine NoPanic.normal ?_
          have HO3 : Hid (Lay.tChainResult.OwnIn (setAll w6 (w.heap.size + 1) 0 [.int .i64 c, .int .i64 e2, .slice a3 n3 d3]) [.int .i64 c, .int .i64 e2, .slice a3 n3 d3] (cutR x id) W.heap.size w6.heap.size) := own_store' (s := w.heap.size + 1) (vs := [.int .i64 c, .int .i64 e2, .slice a3 n3 d3]) (unhide HOW) hlW
          have HB2 := hide ((unhide HB).trans ((below_setAll hS6 (w.heap.size + 1) 0 [.int .i64 c, .int .i64 e2, .slice a3 n3 d3] (by omega)).mono (by omega)))
          have HSF := hide (size_setAll w6 (w.heap.size + 1) 0 [.int .i64 c, .int .i64 e2, .slice a3 n3 d3])
          have hlo : w.heap.size ≤ W.heap.size := by omega
          clear hHeld hS5 hR5 O5 hS6 hR6 O6 hb6 hRD HOW
          go_wp2_with fail
          refine bodyPost_ret (v := .agg #[.int .i64 c, .int .i64 e2, .slice a3 n3 d3]) (by simp [results, Try.results25, go_sem, z0, z1, z2]) rfl ?_
          exact ⟨[.int .i64 c, .int .i64 e2, .slice a3 n3 d3], rfl, (unhide HO3).mono hlo (Nat.le_of_eq (unhide HSF).symm), unhide HB2⟩
        · have HP2 : Hid (∀ w', Below (w.heap.size + 1) W w' → (Lay.sl Lay.int).Reads w' [.slice (some ⟨b2, off + (k + 1), none⟩) (x.ids.length - (k + 1)) (d - (k + 1))] (x.ids.drop (k + 1))) := fun w' hw => by
            have q := part_reads ((unhide HR1).later ((unhide HB).trans (hw.mono (by omega)))) (k + 1) (x.ids.length - (k + 1)) (d - (k + 1)) (by omega) (by omega)
            rw [List.take_of_length_le (by rw [List.length_drop]; exact Nat.le_refl _)] at q
            exact q
          clear z0 z1 z2 ff
          have hRD := Box.drew (unhide HR)
          have hzD : W.heap.size ≤ W.drew.heap.size := Nat.le_refl _
          have hlW := l0
          clear l0
          go_wp2_with fail
          refine wp_region_noPanic ?_
          refine wp_region_held_drew (S := fun w' => Below (w.heap.size + 1) W w') (by kernel_rfl) (Below.refl _ _).drew (fun hHeld => ?_)
          generalize W.drew = wD at hHeld hRD hzD ⊢
          refine wpAnyH_take (i := 0) (oi := { dst := some 25, op := Go.Op.load 27 (Go.Operand.tmp 2), type := 27, pos := "l10_chain.go:114", after := #[], guard := none }) (v := ?vd0_1) rfl (by kernel_rfl) (by kernel_rfl) (by kernel_rfl) (fun _ _ _ h => h) (Or.inl ⟨by rfl, ?hd0_1⟩) hHeld ?rd0_1
          case hd0_1 =>
            intro wS hSw
            have e0 : wS.cell? ⟨w.heap.size, 0, none⟩ = some (.int .i64 x.epoch) := (hSw.cell (p := ⟨w.heap.size, 0, none⟩) (by show w.heap.size < w.heap.size + 1; omega)).trans x0
            have e1 : wS.cell? ⟨w.heap.size, 1, none⟩ = some (.slice (some ⟨b2, off, none⟩) x.ids.length d) := (hSw.cell (p := ⟨w.heap.size, 1, none⟩) (by show w.heap.size < w.heap.size + 1; omega)).trans x1
            clear hSw
            (try dsimp only at hSw)
            go_simp
            try with_reducible rfl
          case rd0_1 =>
          simp only [Act.put, List.setIfInBounds_toArray, List.set_cons_zero, List.set_cons_succ]
          refine wpAnyH_take (i := 1) (oi := { dst := some 26, op := Go.Op.fieldAddr 27 (Go.Operand.tmp 2) 1, type := 0, pos := "l10_chain.go:114", after := #[], guard := none }) (v := ?vd1_2) rfl (by kernel_rfl) (by kernel_rfl) (by kernel_rfl) (fun _ _ _ h => h) (Or.inl ⟨by rfl, ?hd1_2⟩) hHeld ?rd1_2
          case hd1_2 =>
            intro wS hSw
            (try dsimp only at hSw)
            go_simp
            try with_reducible rfl
          case rd1_2 =>
          simp only [Act.put, List.setIfInBounds_toArray, List.set_cons_zero, List.set_cons_succ]
          refine wpAnyH_take (i := 2) (oi := { dst := some 27, op := Go.Op.load 22 (Go.Operand.tmp 26), type := 22, pos := "l10_chain.go:114", after := #[{ on := 1, ground := Go.Ground.data }], guard := none }) (v := ?vd2_3) rfl (by kernel_rfl) (by kernel_rfl) (by kernel_rfl) (fun _ _ _ h => h) (Or.inl ⟨by rfl, ?hd2_3⟩) hHeld ?rd2_3
          case hd2_3 =>
            intro wS hSw
            have e1 : wS.cell? ⟨w.heap.size, 1, none⟩ = some (.slice (some ⟨b2, off, none⟩) x.ids.length d) := (hSw.cell (p := ⟨w.heap.size, 1, none⟩) (by show w.heap.size < w.heap.size + 1; omega)).trans x1
            clear hSw
            (try dsimp only at hSw)
            go_simp
            try with_reducible rfl
          case rd2_3 =>
          simp only [Act.put, List.setIfInBounds_toArray, List.set_cons_zero, List.set_cons_succ]
          refine wpAnyH_take (i := 3) (oi := { dst := some 28, op := Go.Op.move (Go.Operand.tmp 6), type := 3, pos := "l10_chain.go:114", after := #[], guard := none }) (v := ?vd3_4) rfl (by kernel_rfl) (by kernel_rfl) (by kernel_rfl) (fun _ _ _ h => h) (Or.inl ⟨by rfl, ?hd3_4⟩) hHeld ?rd3_4
          case hd3_4 =>
            intro wS hSw
            (try dsimp only at hSw)
            go_simp
            try with_reducible rfl
          case rd3_4 =>
          simp only [Act.put, List.setIfInBounds_toArray, List.set_cons_zero, List.set_cons_succ]
          refine wpAnyH_take (i := 4) (oi := { dst := some 29, op := Go.Op.slice 22 (Go.Operand.tmp 27) none (some (Go.Operand.tmp 28)) none, type := 22, pos := "l10_chain.go:114", after := #[{ on := 2, ground := Go.Ground.data }, { on := 3, ground := Go.Ground.data }], guard := none }) (v := ?vd4_5) rfl (by kernel_rfl) (by kernel_rfl) (by kernel_rfl) (fun _ _ _ h => h) (Or.inl ⟨by rfl, ?hd4_5⟩) hHeld ?rd4_5
          case hd4_5 =>
            intro wS hSw
            clear hSw
            (try dsimp only at hSw)
            go_simp
            try with_reducible rfl
          case rd4_5 =>
          simp only [Act.put, List.setIfInBounds_toArray, List.set_cons_zero, List.set_cons_succ]
          refine wpAnyH_take (i := 5) (oi := { dst := some 30, op := Go.Op.fieldAddr 27 (Go.Operand.tmp 2) 1, type := 0, pos := "l10_chain.go:114", after := #[], guard := none }) (v := ?vd5_6) rfl (by kernel_rfl) (by kernel_rfl) (by kernel_rfl) (fun _ _ _ h => h) (Or.inl ⟨by rfl, ?hd5_6⟩) hHeld ?rd5_6
          case hd5_6 =>
            intro wS hSw
            (try dsimp only at hSw)
            go_simp
            try with_reducible rfl
          case rd5_6 =>
          simp only [Act.put, List.setIfInBounds_toArray, List.set_cons_zero, List.set_cons_succ]
          refine wpAnyH_take (i := 6) (oi := { dst := some 31, op := Go.Op.load 22 (Go.Operand.tmp 30), type := 22, pos := "l10_chain.go:114", after := #[{ on := 5, ground := Go.Ground.data }], guard := none }) (v := ?vd6_7) rfl (by kernel_rfl) (by kernel_rfl) (by kernel_rfl) (fun _ _ _ h => h) (Or.inl ⟨by rfl, ?hd6_7⟩) hHeld ?rd6_7
          case hd6_7 =>
            intro wS hSw
            have e1 : wS.cell? ⟨w.heap.size, 1, none⟩ = some (.slice (some ⟨b2, off, none⟩) x.ids.length d) := (hSw.cell (p := ⟨w.heap.size, 1, none⟩) (by show w.heap.size < w.heap.size + 1; omega)).trans x1
            clear hSw
            (try dsimp only at hSw)
            go_simp
            try with_reducible rfl
          case rd6_7 =>
          simp only [Act.put, List.setIfInBounds_toArray, List.set_cons_zero, List.set_cons_succ]
          refine wpAnyH_take (i := 7) (oi := { dst := some 32, op := Go.Op.move (Go.Operand.tmp 6), type := 3, pos := "l10_chain.go:114", after := #[], guard := none }) (v := ?vd7_8) rfl (by kernel_rfl) (by kernel_rfl) (by kernel_rfl) (fun _ _ _ h => h) (Or.inl ⟨by rfl, ?hd7_8⟩) hHeld ?rd7_8
          case hd7_8 =>
            intro wS hSw
            (try dsimp only at hSw)
            go_simp
            try with_reducible rfl
          case rd7_8 =>
          simp only [Act.put, List.setIfInBounds_toArray, List.set_cons_zero, List.set_cons_succ]
          refine wpAnyH_take (i := 8) (oi := { dst := some 33, op := Go.Op.binOp Go.BinOp.add 3 (Go.Operand.tmp 32) (Go.Operand.const (Go.Value.int Go.IntKind.i64 1)) 3, type := 3, pos := "l10_chain.go:114", after := #[{ on := 7, ground := Go.Ground.data }], guard := none }) (v := ?vd8_9) rfl (by kernel_rfl) (by kernel_rfl) (by kernel_rfl) (fun _ _ _ h => h) (Or.inl ⟨by rfl, ?hd8_9⟩) hHeld ?rd8_9
          case hd8_9 =>
            intro wS hSw
            clear hSw
            have hwr : IntKind.i64.wrap ((k : Int) + 1) = (k : Int) + 1 := by rw [IntKind.wrap_i64]; omega
            (try dsimp only at hSw)
            go_simp
            try with_reducible rfl
          case rd8_9 =>
          simp only [Act.put, List.setIfInBounds_toArray, List.set_cons_zero, List.set_cons_succ]
          refine wpAnyH_take (i := 9) (oi := { dst := some 34, op := Go.Op.slice 22 (Go.Operand.tmp 31) (some (Go.Operand.tmp 33)) none none, type := 22, pos := "l10_chain.go:114", after := #[{ on := 6, ground := Go.Ground.data }, { on := 8, ground := Go.Ground.data }], guard := none }) (v := ?vd9_10) rfl (by kernel_rfl) (by kernel_rfl) (by kernel_rfl) (fun _ _ _ h => h) (Or.inl ⟨by rfl, ?hd9_10⟩) hHeld ?rd9_10
          case hd9_10 =>
            intro wS hSw
            clear hSw
            have h8 : (0 : Int) ≤ (k : Int) + 1 := by omega
            have h9 : (k : Int) + 1 ≤ (x.ids.length : Int) := by omega
            (try dsimp only at hSw)
            go_simp
            try with_reducible rfl
          case rd9_10 =>
          simp only [Act.put, List.setIfInBounds_toArray, List.set_cons_zero, List.set_cons_succ]
          refine wpAnyH_ready (rs := [10]) (by kernel_rfl) (by simp) ?_
          refine AllReadyH.cons (o := { dst := some 35, op := Go.Op.buildSlice 62 2 #[(0, Go.Operand.tmp 29), (1, Go.Operand.tmp 34)], type := 62, pos := "l10_chain.go:114", after := #[{ on := 4, ground := Go.Ground.data }, { on := 9, ground := Go.Ground.data }], guard := none }) rfl (fun K hK => ?_) AllReadyH.nil
          have b7 : Box 0 #[.slice (some ⟨b2, off, none⟩) k d, .slice (some ⟨b2, off + (k + 1), none⟩) (x.ids.length - (k + 1)) (d - (k + 1))] 22 (wD.alloc (.cells #[.slice (some ⟨b2, off, none⟩) k d, .slice (some ⟨b2, off + (k + 1), none⟩) (x.ids.length - (k + 1)) (d - (k + 1))] 22)) wD.heap.size := newBox (Nat.zero_le _)
          have nb7 : Below wD.heap.size wD (wD.alloc (.cells #[.slice (some ⟨b2, off, none⟩) k d, .slice (some ⟨b2, off + (k + 1), none⟩) (x.ids.length - (k + 1)) (d - (k + 1))] 22)) := (Below.refl _ _).alloc (Nat.le_refl _) _
          have hR7 := hRD.keep nb7
          have hS7 := hHeld.trans (nb7.mono (by omega))
          have hz7 := nb7.size
          go_simp
          try go_wp2_with fail
          refine hK.out _ _ hS7 (fun hHeld => ?_)
          clear hK K
          try simp only [Act.put, List.setIfInBounds_toArray, List.set_cons_zero, List.set_cons_succ]
          refine wpAnyH_ready (rs := [11]) (by kernel_rfl) (by simp) ?_
          refine AllReadyH.cons (o := { dst := some 36, op := Go.Op.call { callee := Go.Callee.value (Go.Operand.func 45), args := #[Go.Operand.tmp 35], argTypes := #[62] }, type := 22, pos := "l10_chain.go:114", after := #[{ on := 10, ground := Go.Ground.data }], guard := none }) rfl (fun K hK => ?_) AllReadyH.nil
          go_simp
          go_at_call 45
          refine (implConcatI _ _ _ (x.ids.take k) (x.ids.drop (k + 1)) _ (b7.at 0 _ rfl) (b7.at 1 _ rfl) (Lay.ints_reads (unhide HP1 _ hHeld)) (Lay.ints_reads (unhide HP2 _ hHeld)) (by rw [List.length_take]; omega) (by rw [List.length_drop]; omega)).mono ?_
          rintro e w5 ⟨v5, rfl, O5, hb5⟩
          obtain ⟨m, hm⟩ : ∃ m, m = (x.ids.take k ++ x.ids.drop (k + 1)).length := ⟨_, rfl⟩
          rw [← hm] at O5
          have HM := hide hm
          clear hm
          obtain ⟨a9, c9, rfl⟩ := own_shape O5
          have hS5 := hS7.trans (hb5.mono (by omega))
          have hR5 := hR7.keep hb5
          replace O5 := own_mono (b' := W.heap.size) (by omega) O5
          try go_wp2_with fail
          refine hK.out _ _ hS5 (fun hHeld => ?_)
          clear hK K
          try simp only [Act.put, List.setIfInBounds_toArray, List.set_cons_zero, List.set_cons_succ]
          refine wpAnyH_ready (rs := [12]) (by kernel_rfl) (by simp) ?_
          refine AllReadyH.cons (o := { dst := some 37, op := Go.Op.call { callee := Go.Callee.value (Go.Operand.func 44), args := #[Go.Operand.tmp 25, Go.Operand.tmp 36], argTypes := #[27, 22] }, type := 32, pos := "l10_chain.go:114", after := #[{ on := 0, ground := Go.Ground.data }, { on := 11, ground := Go.Ground.data }, { on := 11, ground := Go.Ground.chain }], guard := none }) rfl (fun K hK => ?_) AllReadyH.nil
          go_simp
          go_at_call 44
          have hz5 := hS5.size
          refine (changedC x.epoch _ _ _ _ _ _ w5 (by omega)).mono ?_
          rintro e w6 ⟨c, e2, a3, n3, d3, rfl, hch, hb6⟩
          have hS6 := hS5.trans (hb6.mono (by omega))
          have hR6 := hR5.keep hb6
          have O6 := own_below O5 hb6
          have hz6 := hb6.size
          have z0 := Box.at hR6 0 _ rfl
          have z1 := Box.at hR6 1 _ rfl
          have z2 := Box.at hR6 2 _ rfl
          simp only [List.getElem_toArray, List.getElem_cons_zero, List.getElem_cons_succ] at z0 z1 z2
          have ff := Box.soft hR6
          have l0 := Box.lt hR6
          have HOW : Hid (Lay.tChainResult.OwnIn w6 [.int .i64 c, .int .i64 e2, .slice a3 n3 d3] (cutR x id) W.heap.size w6.heap.size) := by
            rcases hch with ⟨h9, rfl, rfl, q3⟩ | ⟨h9, rfl, rfl, q3⟩
            · obtain ⟨rfl, rfl, rfl⟩ := q3
              rw [unhide HV2, if_pos (by omega)]
              exact own_badChain (by decide)
            · obtain ⟨rfl, rfl, rfl⟩ := q3
              rw [unhide HV2, if_neg (by omega)]
              refine own_chainR (c := 0) (x := ⟨x.epoch + 1, x.ids.take k ++ x.ids.drop (k + 1)⟩) (by decide) (wf_of_bd (by simp only; omega)) (own_intsC (zs := x.ids.take k ++ x.ids.drop (k + 1)) (unhide HWJ) (by rw [List.length_append, List.length_take, List.length_drop]; omega) ?_)
              first | exact O6 | (rw [← unhide HM]; exact O6) | simpa using O6
          clear hch
          try go_wp2_with fail
          refine hK.out _ _ hS6 (fun hHeld => ?_)
          clear hK K
          try simp only [Act.put, List.setIfInBounds_toArray, List.set_cons_zero, List.set_cons_succ]
          refine wpAnyH_ready (rs := [13]) (by kernel_rfl) (by simp) ?_
          refine AllReadyH.cons (o := { dst := none, op := Go.Op.store 32 (Go.Operand.tmp 4) (Go.Operand.tmp 37), type := 0, pos := "l10_chain.go:114", after := #[{ on := 12, ground := Go.Ground.data }, { on := 12, ground := Go.Ground.chain }, { on := 0, ground := Go.Ground.phase }, { on := 1, ground := Go.Ground.phase }, { on := 2, ground := Go.Ground.phase }, { on := 3, ground := Go.Ground.phase }, { on := 4, ground := Go.Ground.phase }, { on := 5, ground := Go.Ground.phase }, { on := 6, ground := Go.Ground.phase }, { on := 7, ground := Go.Ground.phase }, { on := 8, ground := Go.Ground.phase }, { on := 9, ground := Go.Ground.phase }, { on := 10, ground := Go.Ground.phase }, { on := 11, ground := Go.Ground.phase }, { on := 12, ground := Go.Ground.phase }], guard := none }) rfl (fun K hK => ?_) AllReadyH.nil
          go_simp
          try go_wp2_with fail
          refine hK.out _ _ (below_setAll hS6 (w.heap.size + 1) 0 [.int .i64 c, .int .i64 e2, .slice a3 n3 d3] (by omega)) (fun hHeld => ?_)
          clear hK K
          try simp only [Act.put, List.setIfInBounds_toArray, List.set_cons_zero, List.set_cons_succ]
          refine wpAnyH_done (by kernel_rfl) ?_ _
          refine NoPanic.normal ?_
          have HO3 : Hid (Lay.tChainResult.OwnIn (setAll w6 (w.heap.size + 1) 0 [.int .i64 c, .int .i64 e2, .slice a3 n3 d3]) [.int .i64 c, .int .i64 e2, .slice a3 n3 d3] (cutR x id) W.heap.size w6.heap.size) := own_store' (s := w.heap.size + 1) (vs := [.int .i64 c, .int .i64 e2, .slice a3 n3 d3]) (unhide HOW) hlW
          have HB2 := hide ((unhide HB).trans ((below_setAll hS6 (w.heap.size + 1) 0 [.int .i64 c, .int .i64 e2, .slice a3 n3 d3] (by omega)).mono (by omega)))
          have HSF := hide (size_setAll w6 (w.heap.size + 1) 0 [.int .i64 c, .int .i64 e2, .slice a3 n3 d3])
          have hlo : w.heap.size ≤ W.heap.size := by omega
          clear hHeld hS5 hR5 O5 hS6 hR6 O6 hb6 hRD HOW
          go_wp2_with fail
          refine bodyPost_ret (v := .agg #[.int .i64 c, .int .i64 e2, .slice a3 n3 d3]) (by simp [results, Try.results25, go_sem, z0, z1, z2]) rfl ?_
          exact ⟨[.int .i64 c, .int .i64 e2, .slice a3 n3 d3], rfl, (unhide HO3).mono hlo (Nat.le_of_eq (unhide HSF).symm), unhide HB2⟩
  · have HV := hide (cutR_bad (id := id) hc)
    have hv := chainFault_vals x
    have hc2 : (chainFault x != 0) = true := by simpa using hc
    clear hc
    generalize chainFault x = f at *
    have HB2 := hide (below_setAll (unhide HB) (w.heap.size + 1) 0 [.int .i64 (f), .int .i64 0, .slice none 0 0] (by omega))
    clear HB
    go_wp2_with fail
    refine bodyPost_ret (v := .agg #[.int .i64 (f), .int .i64 0, .slice none 0 0]) (by simp [results, Try.results25, go_sem, z0, z1, z2]) rfl ?_
    rw [unhide HV]
    exact ⟨_, rfl, own_badChain (by omega), unhide HB2⟩
end Go.Proofs.Ytceoaphcjnfphaa

namespace Go.Proofs.Ytceoaphcjnfphaa
open Go.RowKit

theorem step_append_int {w1 : World} {base : Nat} {v : Value} {n : Nat} {xs : List Value} (hown : w1.ownsRow base 2 1 v n xs) (q : Int) {ops : Array Oper} {o : Oper} {a : Act} {K : Act → World → Prop} {Q : Exit → Act → World → Prop} {E : Prop} (hgd : o.guard = none) (s x : Operand)
    (ho : o.op = .call { callee := .builtin .append, args := #[s, x], argTypes := #[22, 22] }) (hs : a.eval s = v) (hx : a.eval x = .slice (some ⟨w1.heap.size, 0, none⟩) 1 1)
    (hn : n ≤ 100000000) (hbase : base ≤ w1.heap.size)
    (h : ∀ g cap w', w'.ownsRow base 2 1 (.slice (some ⟨g, 0, none⟩) (n + 1) cap) (n + 1) (xs ++ [.int .i64 q]) → w1.grownBy w' v.ownBlock → Below base w1 w' → g < w'.heap.size → w1.heap.size < w'.heap.size → K (a.put o.dst (.slice (some ⟨g, 0, none⟩) (n + 1) cap)) w') :
    if Region.wanted o (yielded ops a.tmps) = true then Oper.wp Try.prog o a (w1.alloc (.cells #[.int .i64 q] 2)) K Q else E := by
  obtain ⟨i0, hi0, hz0, hz1, hz2⟩ := info_parts info2
  refine step_append_lies _ hgd s x 22 ho base 2 i0 _ 1 8 Try.underlying22 hi0 hz0 hz1 hz2 rfl (by omega) v n xs hs (hown.alloc _) ⟨w1.heap.size, 0, none⟩ 1 1 [.int .i64 q] hx rfl (World.news_of_block (cs := #[.int .i64 q]) (t := 2) (fr := (0, 0)) (heap_alloc_new w1 _)) (by simp [Value.oneCell']) (by omega) (by unfold maxLen; omega) (by omega) (by simp; omega) (w1.heap.size + 1) (by simp) ?_
  intro g cap w' h2 h3 _ h5
  have hg := grown_alloc h3
  have hsz := h3.size
  simp only [World.size_alloc] at hsz
  exact h g cap w' h2 hg ((Below.refl _ _).grown hg hbase (fun j hj => (hown.lt j hj).1)) h5 (by omega)

end Go.Proofs.Ytceoaphcjnfphaa
