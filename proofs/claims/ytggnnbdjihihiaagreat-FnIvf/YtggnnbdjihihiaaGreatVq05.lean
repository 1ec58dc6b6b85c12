/-
  Texts of this proof in one: SpecBuild7G, DrawR7, IvfPut, IvfBent.
  Their conditions stand in their theorems.
-/
import Derived.Test.YtggnnbdjihihiaaGreatChecked
import Derived.Test.YtggnnbdjihihiaaGreatVq03
import Derived.Test.YtggnnbdjihihiaaGreatVq04
import Derived.Test.YtggnnbdjihihiaaGreatVq02
import Derived.Test.YtggnnbdjihihiaaGreatVq01
import Derived.Deep.CutRange

namespace Go.Proofs.YtggnnbdjihihiaaGreat
open Go.RowKit

set_option maxRecDepth 100000 in
set_option maxHeartbeats 8000000 in
theorem specBuild7G (vc : Value) (cs : List DCenter) (vx : Value) (xs : List DItem) (w : World) (hcs : (Lay.sl Lay.tCenter).Reads w [vc] cs) (h : (Lay.sl Lay.tItem).Reads w [vx] xs) (hfc : centersFault cs = 0) (hft : tableFault xs = 0) :
    Calls Tryz.prog 65 #[vc, vx] w fun e w' => ∃ rc rl, e = .returned (.agg #[rc, rl]) ∧ Two0 w' (w.heap.size + 2) rc rl cs (buildI cs xs).lists ∧ Below w.heap.size w w' := by
  obtain ⟨ao, dc, rfl⟩ := open_sl hcs
  obtain ⟨ax, dx, rfl⟩ := open_sl h
  obtain ⟨⟨hn1, hn6⟩, hcv⟩ := centersFault_zero hfc
  obtain ⟨hlen, hall, -⟩ := tableFault_zero hft
  obtain ⟨bc, oc, rfl, hbc⟩ := Lay.sl_addr hcs hn1
  have HXV : Hid (∀ x ∈ xs, vecFault x.vec = 0) := fun x hm => (hall x hm).2
  have HCV := hide hcv
  have HFC := hide hfc
  have HB0 : Below w.heap.size w ((w.alloc (.cells #[.slice none 0 0, .slice none 0 0] 27)).alloc (.cells #[.slice none 0 0, .slice none 0 0] 27)) := ((Below.refl _ _).alloc (Nat.le_refl _) _).alloc (by simp) _
  have bR : Box w.heap.size #[.slice none 0 0, .slice none 0 0] 27 ((w.alloc (.cells #[.slice none 0 0, .slice none 0 0] 27)).alloc (.cells #[.slice none 0 0, .slice none 0 0] 27)) w.heap.size := (newBox (Nat.le_refl _)).grow _
  have bX : Box w.heap.size #[.slice none 0 0, .slice none 0 0] 27 ((w.alloc (.cells #[.slice none 0 0, .slice none 0 0] 27)).alloc (.cells #[.slice none 0 0, .slice none 0 0] 27)) (w.heap.size + 1) := newBoxAt (by omega) (by simp)
  have hW0 : w.heap.size + 1 ≤ ((w.alloc (.cells #[.slice none 0 0, .slice none 0 0] 27)).alloc (.cells #[.slice none 0 0, .slice none 0 0] 27)).heap.size := by simp
  have hW2 : w.heap.size + 2 ≤ ((w.alloc (.cells #[.slice none 0 0, .slice none 0 0] 27)).alloc (.cells #[.slice none 0 0, .slice none 0 0] 27)).heap.size := by simp
  have hcl := (hcs.liesIn).later HB0
  have hxl := (h.liesIn).later HB0
  have hc0 := hcs.later HB0
  have hx0 := h
  clear hcs h hall hfc hft hcv
  go_enter Tryz.func65, Tryz.ntmps65
  go_wp2_with fail
  generalize (w.alloc (.cells #[.slice none 0 0, .slice none 0 0] 27)).alloc (.cells #[.slice none 0 0, .slice none 0 0] 27) = W0 at *
  have KC : Hid (∀ W, Below (w.heap.size + 1) W0 W → (Lay.sl Lay.tCenter).Reads W [.slice (some ⟨bc, oc, none⟩) cs.length dc] cs ∧ (Lay.sl Lay.tItem).Reads W [.slice ax xs.length dx] xs) := fun W hW => ⟨(hcl.below hW (by omega)).reads, (hxl.below hW (by omega)).reads⟩
  have KX : Hid (∀ W, Below (w.heap.size + 1) W0 W → ∀ j (hj : j < xs.length), ∃ b off a d bl, ax = some ⟨b, off, none⟩ ∧ b < w.heap.size ∧ W.cell? ⟨b, off + j * 2, none⟩ = some (.int .i64 (xs[j]).id) ∧ W.cell? ⟨b, off + j * 2 + 1, none⟩ = some (.slice a (xs[j]).vec.length d) ∧ Lay.tItem.lies W [.int .i64 (xs[j]).id, .slice a (xs[j]).vec.length d] xs[j] bl ∧ ∀ q ∈ bl, q < w.heap.size) := by
    intro W hW j hj
    obtain ⟨b, off, e, hb⟩ := Lay.sl_addr hx0 (by omega)
    subst e
    obtain ⟨row, hc, bl, hl⟩ := Lay.row_at hx0 hj
    obtain ⟨a, d, b9, e9, -⟩ := lies_Item.1 hl
    subst e9
    have hlt := Lay.tItem.lt hl
    have hl2 := Lay.tItem.keep (Lay.tItem.keep hl (fun q hq => HB0.block q (hlt q hq))) (fun q hq => hW.block q (by have := hlt q hq; omega))
    exact ⟨b, off, a, d, bl, rfl, hb, (hW.cell (p := ⟨b, off + j * 2, none⟩) (by show b < w.heap.size + 1; omega)).trans ((HB0.cell (p := ⟨b, off + j * 2, none⟩) hb).trans (hc 0 (by decide))), (hW.cell (p := ⟨b, off + j * 2 + 1, none⟩) (by show b < w.heap.size + 1; omega)).trans ((HB0.cell (p := ⟨b, off + j * 2 + 1, none⟩) hb).trans (hc 1 (by decide))), hl2, hlt⟩
  have HC0 := hide hc0
  have HR := hide bR
  have HXB := hide bX
  have HBW := hide HB0
  clear hcl hxl hc0 hx0 bR bX HB0
  go_loopw [6] (fun i wr => ∃ (k : Nat) (rc rl : Value), k ≤ cs.length ∧ i = .int .i64 k ∧ Box w.heap.size #[rc, rl] 27 wr (w.heap.size + 1) ∧ Two0 wr (w.heap.size + 2) rc rl (cs.take k) ((buildI cs xs).lists.take k) ∧ Below (w.heap.size + 1) W0 wr) (fun i _ => cs.length - (intOf i).toNat)
  case atStart => exact ⟨0, _, _, Nat.zero_le _, rfl, unhide HXB, two0_nil _ _, Below.refl _ _⟩
  case round =>
    obtain ⟨k, rc, rl, hk, rfl, hX, hT, hB⟩ := hrel
    clear HXB
    by_cases hlt : k < cs.length
    · obtain ⟨row, hc, hr⟩ := Lay.row_at (unhide HC0) hlt
      obtain ⟨a1, d1, rfl, R1⟩ := open_Center hr
      have c1 : W0.cell? ⟨bc, oc + k, none⟩ = some (.slice a1 (cs[k]).vec.length d1) := cen_cell (hc 0 (by decide))
      have hvy := unhide HCV cs[k] (List.getElem_mem hlt)
      have HTK : Hid (cs.take (k + 1) = cs.take k ++ [⟨(cs[k]).vec⟩]) := List.take_succ_eq_append_getElem hlt
      have HLC : Hid ((cs.take k).length = k) := by show (cs.take k).length = k; simp; omega
      have HTL := hide (buildI_take cs xs k hlt)
      have HLL : Hid (((buildI cs xs).lists.take k).length = k) := by show ((buildI cs xs).lists.take k).length = k; rw [List.length_take, buildI_len]; omega
      clear hc hr
      generalize hyk : cs[k] = c at *
      generalize cs.take k = ck at *
      generalize (buildI cs xs).lists.take k = lk at *
      have hv3 := (vecFault_zero hvy).1
      have LN : Hid (∀ W, Below (w.heap.size + 1) W0 W → Calls Tryz.prog 106 #[.slice a1 c.vec.length d1] W fun e w' => ∃ a d bl, e = .returned (.slice a c.vec.length d) ∧ Lay.tCenter.lies w' [.slice a c.vec.length d] ⟨c.vec⟩ bl ∧ (∀ q ∈ bl, W.heap.size ≤ q) ∧ Below W.heap.size W w') := fun W hW => by
        obtain ⟨row, hc, hr⟩ := Lay.row_at (unhide KC W hW).1 hlt
        obtain ⟨a1', d1', e1, R⟩ := open_Center hr
        have c9 := cen_cell (hc 0 (by decide))
        rw [e1] at c9
        rw [hyk] at c9 R
        have c8 := (hW.cell (p := ⟨bc, oc + k, none⟩) (by show bc < w.heap.size + 1; omega)).trans c1
        have e8 := c8.symm.trans c9
        simp only [List.getElem?_cons_zero, Option.some.injEq, Value.slice.injEq, true_and] at e8
        obtain ⟨rfl, rfl⟩ := e8
        refine (l1Ints _ c.vec W (Lay.ints_reads R) (by omega)).mono ?_
        rintro e w' ⟨v', rfl, ho, hb⟩
        obtain ⟨bl, ⟨hl, -, -⟩, hi⟩ := Lay.ownInts (ints_wf6 (Lay.ints_reads R)) (by omega) ho
        obtain ⟨a, d, rfl⟩ := open_sl ⟨bl, hl⟩
        exact ⟨a, d, bl, rfl, hl, fun q hq => (hi q hq).1, hb⟩
      obtain ⟨rowsC, blsC, rowsL, blsL, gC, gL, s1, s2, x1, x2, x3, F⟩ := hT
      have hXD : Box w.heap.size #[rc, rl] 27 wr.drew (w.heap.size + 1) := hX.drew
      have gCD := gC.later (Below.refl wr.heap.size wr).drew
      have gLD := gL.later (Below.refl wr.heap.size wr).drew
      have FD := F.later (Below.refl wr.heap.size wr).drew
      have gCD_lo : w.heap.size + 2 ≤ wr.drew.heap.size := Nat.le_trans hW2 hB.size
      have hHD : Below (w.heap.size + 1) W0 wr.drew := hB.drew
      have i1 : (0 : Int) ≤ (k : Int) := by omega
      have i2 : (k : Int) < (cs.length : Int) := by omega
      clear hX hB gC gL F R1 hvy hv3 hyk
      go_upto_region 5 with fail
      go_cut [5] from 16 to 27 (fun s5 wx => s5 = .pointer (some ⟨w.heap.size + 1, 0, none⟩) ∧ ∃ rc', Two0 wx (w.heap.size + 2) rc' rl (cs.take (k + 1)) lk ∧ Box w.heap.size #[rc', rl] 27 wx (w.heap.size + 1) ∧ Below (w.heap.size + 1) W0 wx)
      case first =>
        refine wp_region_noPanic ?_
        refine wp_region_held_drew (S := fun w' => Below (w.heap.size + 1) W0 w') (by kernel_rfl) hHD (fun hHeld => ?_)
        generalize wr.drew = wD at hHeld hXD gCD gLD FD hHD gCD_lo ⊢
        refine wpAnyH_take (i := 0) (oi := { dst := some 16, op := Go.Op.fieldAddr 27 (Go.Operand.tmp 5) 0, type := 0, pos := "l07_ivf.go:61", after := #[], guard := none }) (v := ?va0_1) rfl (by kernel_rfl) (by kernel_rfl) (by kernel_rfl) (fun _ _ _ h => h) (Or.inl ⟨by rfl, ?ha0_1⟩) hHeld ?ra0_1
        case ha0_1 =>
          intro wS hSw
          (try dsimp only at hSw)
          go_simp
          try with_reducible rfl
        case ra0_1 =>
        simp only [Act.put, List.setIfInBounds_toArray, List.set_cons_zero, List.set_cons_succ]
        refine wpAnyH_take (i := 2) (oi := { dst := some 18, op := Go.Op.move (Go.Operand.tmp 0), type := 24, pos := "l07_ivf.go:61", after := #[], guard := none }) (v := ?va2_2) rfl (by kernel_rfl) (by kernel_rfl) (by kernel_rfl) (fun _ _ _ h => h) (Or.inl ⟨by rfl, ?ha2_2⟩) hHeld ?ra2_2
        case ha2_2 =>
          intro wS hSw
          (try dsimp only at hSw)
          go_simp
          try with_reducible rfl
        case ra2_2 =>
        simp only [Act.put, List.setIfInBounds_toArray, List.set_cons_zero, List.set_cons_succ]
        refine wpAnyH_take (i := 3) (oi := { dst := some 19, op := Go.Op.move (Go.Operand.tmp 6), type := 3, pos := "l07_ivf.go:61", after := #[], guard := none }) (v := ?va3_3) rfl (by kernel_rfl) (by kernel_rfl) (by kernel_rfl) (fun _ _ _ h => h) (Or.inl ⟨by rfl, ?ha3_3⟩) hHeld ?ra3_3
        case ha3_3 =>
          intro wS hSw
          (try dsimp only at hSw)
          go_simp
          try with_reducible rfl
        case ra3_3 =>
        simp only [Act.put, List.setIfInBounds_toArray, List.set_cons_zero, List.set_cons_succ]
        refine wpAnyH_take (i := 4) (oi := { dst := some 20, op := Go.Op.indexAddr 24 (Go.Operand.tmp 18) (Go.Operand.tmp 19), type := 0, pos := "l07_ivf.go:61", after := #[{ on := 2, ground := Go.Ground.data }, { on := 3, ground := Go.Ground.data }], guard := none }) (v := ?va4_4) rfl (by kernel_rfl) (by kernel_rfl) (by kernel_rfl) (fun _ _ _ h => h) (Or.inl ⟨by rfl, ?ha4_4⟩) hHeld ?ra4_4
        case ha4_4 =>
          intro wS hSw
          (try dsimp only at hSw)
          go_simp
          try with_reducible rfl
        case ra4_4 =>
        simp only [Act.put, List.setIfInBounds_toArray, List.set_cons_zero, List.set_cons_succ]
        refine wpAnyH_take (i := 5) (oi := { dst := some 21, op := Go.Op.fieldAddr 145 (Go.Operand.tmp 20) 0, type := 0, pos := "l07_ivf.go:61", after := #[{ on := 4, ground := Go.Ground.data }], guard := none }) (v := ?va5_5) rfl (by kernel_rfl) (by kernel_rfl) (by kernel_rfl) (fun _ _ _ h => h) (Or.inl ⟨by rfl, ?ha5_5⟩) hHeld ?ra5_5
        case ha5_5 =>
          intro wS hSw
          (try dsimp only at hSw)
          go_simp
          try with_reducible rfl
        case ra5_5 =>
        simp only [Act.put, List.setIfInBounds_toArray, List.set_cons_zero, List.set_cons_succ]
        refine wpAnyH_take (i := 6) (oi := { dst := some 22, op := Go.Op.load 28 (Go.Operand.tmp 21), type := 28, pos := "l07_ivf.go:61", after := #[{ on := 5, ground := Go.Ground.data }], guard := none }) (v := ?va6_6) rfl (by kernel_rfl) (by kernel_rfl) (by kernel_rfl) (fun _ _ _ h => h) (Or.inl ⟨by rfl, ?ha6_6⟩) hHeld ?ra6_6
        case ha6_6 =>
          intro wS hSw
          have y1 := (hSw.cell (p := ⟨bc, oc + k, none⟩) (by show bc < w.heap.size + 1; omega)).trans c1
          clear hSw
          (try dsimp only at hSw)
          go_simp
          try with_reducible rfl
        case ra6_6 =>
        simp only [Act.put, List.setIfInBounds_toArray, List.set_cons_zero, List.set_cons_succ]
        refine wpAnyH_ready (rs := [1, 7]) (by kernel_rfl) (by simp) ?_
        refine AllReadyH.cons (o := { dst := some 17, op := Go.Op.load 24 (Go.Operand.tmp 16), type := 24, pos := "l07_ivf.go:61", after := #[{ on := 0, ground := Go.Ground.data }], guard := none }) rfl (fun K hK => ?oa1_7) (AllReadyH.cons (o := { dst := some 23, op := Go.Op.call { callee := Go.Callee.value (Go.Operand.func 106), args := #[Go.Operand.tmp 22], argTypes := #[28] }, type := 28, pos := "l07_ivf.go:61", after := #[{ on := 6, ground := Go.Ground.data }], guard := none }) rfl (fun K hK => ?oa7_7) (AllReadyH.nil))
        case oa1_7 =>
          have y1 : (wD).cell? ⟨w.heap.size + 1, 0, none⟩ = some rc := hXD.at 0 _ rfl
          go_simp
          refine hK.out _ _ hHeld (fun hHeld => ?_)
          clear hK K
          try simp only [Act.put, List.setIfInBounds_toArray, List.set_cons_zero, List.set_cons_succ]
          refine wpAnyH_ready (rs := [7]) (by kernel_rfl) (by simp) ?_
          refine AllReadyH.cons (o := { dst := some 23, op := Go.Op.call { callee := Go.Callee.value (Go.Operand.func 106), args := #[Go.Operand.tmp 22], argTypes := #[28] }, type := 28, pos := "l07_ivf.go:61", after := #[{ on := 6, ground := Go.Ground.data }], guard := none }) rfl (fun K hK => ?_) AllReadyH.nil
          go_simp
          go_at_call 106
          refine (unhide LN _ hHeld).mono ?_
          rintro e w3 ⟨a9, d9, bl9, rfl, hl9, hi9, hbw⟩
          try go_wp2_with fail
          refine hK.out _ _ (below_up hW0 hHeld hbw) (fun hHeld => ?_)
          clear hK K
          try simp only [Act.put, List.setIfInBounds_toArray, List.set_cons_zero, List.set_cons_succ]
          refine wpAnyH_take (i := 8) (oi := { dst := some 24, op := Go.Op.build 145 #[(0, Go.Operand.tmp 23)], type := 145, pos := "l07_ivf.go:61", after := #[{ on := 7, ground := Go.Ground.data }], guard := none }) (v := ?va8_8) rfl (by kernel_rfl) (by kernel_rfl) (by kernel_rfl) (fun _ _ _ h => h) (Or.inl ⟨by rfl, ?ha8_8⟩) hHeld ?ra8_8
          case ha8_8 =>
            intro wS hSw
            (try dsimp only at hSw)
            go_simp
            try with_reducible rfl
          case ra8_8 =>
          simp only [Act.put, List.setIfInBounds_toArray, List.set_cons_zero, List.set_cons_succ]
          refine wpAnyH_ready (rs := [9]) (by kernel_rfl) (by simp) ?_
          refine AllReadyH.cons (o := { dst := some 25, op := Go.Op.buildSlice 24 1 #[(0, Go.Operand.tmp 24)], type := 24, pos := "l07_ivf.go:61", after := #[{ on := 8, ground := Go.Ground.data }], guard := none }) rfl (fun K hK => ?_) AllReadyH.nil
          go_simp
          refine hK.out _ _ (hHeld.alloc (Nat.le_trans hW0 hHeld.size) _) (fun hHeld => ?_)
          clear hK K
          try simp only [Act.put, List.setIfInBounds_toArray, List.set_cons_zero, List.set_cons_succ]
          refine wpAnyH_ready (rs := [10]) (by kernel_rfl) (by simp) ?_
          refine AllReadyH.cons (o := { dst := some 26, op := Go.Op.call { callee := Go.Callee.builtin Go.Builtin.append, args := #[Go.Operand.tmp 17, Go.Operand.tmp 25], argTypes := #[24, 24] }, type := 24, pos := "l07_ivf.go:61", after := #[{ on := 1, ground := Go.Ground.data }, { on := 9, ground := Go.Ground.data }, { on := 7, ground := Go.Ground.chain }], guard := none }) rfl (fun K hK => ?_) AllReadyH.nil
          have hG3 := gCD.later hbw
          have hz3 := hbw.size
          refine step_append_Center hG3 (row := [.slice a9 c.vec.length d9]) (x := ⟨c.vec⟩) (bl := bl9) hl9 (fun q hq e => by have h1 := (gCD.own.lt q e).2; have h2 := hi9 q hq; omega) rfl _ _ rfl rfl rfl (by have := unhide HLC; omega) (by have := gCD_lo; omega) ?_
          rintro g5 cp5 w5 hG5 hb5 hE5 hl5 hz5 hor5
          have hX5 : Box w.heap.size #[rc, rl] 27 w5 (w.heap.size + 1) := (hXD.keep hbw).ext hE5 (fun e => by have := (hG3.own.lt _ e).1; omega)
          refine hK.out _ _ ((below_up hW0 hHD hbw).trans (hb5.mono (by omega))) (fun hHeld => ?_)
          clear hK K
          try simp only [Act.put, List.setIfInBounds_toArray, List.set_cons_zero, List.set_cons_succ]
          refine wpAnyH_take (i := 11) (oi := { dst := some 27, op := Go.Op.fieldAddr 27 (Go.Operand.tmp 5) 0, type := 0, pos := "l07_ivf.go:61", after := #[{ on := 0, ground := Go.Ground.phase }, { on := 1, ground := Go.Ground.phase }, { on := 2, ground := Go.Ground.phase }, { on := 3, ground := Go.Ground.phase }, { on := 4, ground := Go.Ground.phase }, { on := 5, ground := Go.Ground.phase }, { on := 6, ground := Go.Ground.phase }, { on := 7, ground := Go.Ground.phase }, { on := 8, ground := Go.Ground.phase }, { on := 9, ground := Go.Ground.phase }, { on := 10, ground := Go.Ground.phase }], guard := none }) (v := ?va11_9) rfl (by kernel_rfl) (by kernel_rfl) (by kernel_rfl) (fun _ _ _ h => h) (Or.inl ⟨by rfl, ?ha11_9⟩) hHeld ?ra11_9
          case ha11_9 =>
            intro wS hSw
            (try dsimp only at hSw)
            go_simp
            try with_reducible rfl
          case ra11_9 =>
          simp only [Act.put, List.setIfInBounds_toArray, List.set_cons_zero, List.set_cons_succ]
          refine wpAnyH_ready (rs := [12]) (by kernel_rfl) (by simp) ?_
          refine AllReadyH.cons (o := { dst := none, op := Go.Op.store 24 (Go.Operand.tmp 27) (Go.Operand.tmp 26), type := 0, pos := "l07_ivf.go:61", after := #[{ on := 11, ground := Go.Ground.data }, { on := 10, ground := Go.Ground.data }, { on := 10, ground := Go.Ground.chain }, { on := 0, ground := Go.Ground.phase }, { on := 1, ground := Go.Ground.phase }, { on := 2, ground := Go.Ground.phase }, { on := 3, ground := Go.Ground.phase }, { on := 4, ground := Go.Ground.phase }, { on := 5, ground := Go.Ground.phase }, { on := 6, ground := Go.Ground.phase }, { on := 7, ground := Go.Ground.phase }, { on := 8, ground := Go.Ground.phase }, { on := 9, ground := Go.Ground.phase }, { on := 10, ground := Go.Ground.phase }], guard := none }) rfl (fun K hK => ?_) AllReadyH.nil
          have y1 := hX5.at 0 _ rfl
          have f1 := hX5.soft 0
          have l5 := hX5.lt
          go_simp
          refine hK.out _ _ (hHeld.setCell (by simp) _) (fun hHeld => ?_)
          clear hK K
          try simp only [Act.put, List.setIfInBounds_toArray, List.set_cons_zero, List.set_cons_succ]
          refine wpAnyH_done (by kernel_rfl) ?_ _
          refine NoPanic.normal ?_
          have HX9 : Hid (Box w.heap.size #[.slice (some ⟨g5, 0, none⟩) (ck.length + 1) cp5, rl] 27 (w5.setCell ⟨w.heap.size + 1, 0, none⟩ (.slice (some ⟨g5, 0, none⟩) (ck.length + 1) cp5)) (w.heap.size + 1)) := hX5.set 0 _
          have HT9 : Hid (Two0 (w5.setCell ⟨w.heap.size + 1, 0, none⟩ (.slice (some ⟨g5, 0, none⟩) (ck.length + 1) cp5)) (w.heap.size + 2) (.slice (some ⟨g5, 0, none⟩) (ck.length + 1) cp5) rl (ck ++ [⟨c.vec⟩]) lk) := (Two0.cens (gLD.later hbw) s1 s2 x1 x2 x3 hG5 hE5 hor5 (fun q hq => by have := hi9 q hq; have := gCD_lo; omega) (fun q hq e => by have h1 := (gLD.own.lt q e).2; have h2 := hi9 q hq; omega) FD hbw hi9).ext (S := fun q => q = w.heap.size + 1) ((Ext.refl _ _).setCell ⟨w.heap.size + 1, 0, none⟩ _ rfl) (fun q h1 h2 => by omega)
          have HB9 := hide hHeld
          clear hHeld hG5 hb5 hE5 hX5 hG3 hbw gCD gLD hXD hHD
          go_wp2_with fail
          go_meet
          exact ⟨rfl, _, by rw [unhide HTK]; exact unhide HT9, unhide HX9, unhide HB9⟩
        case oa7_7 =>
          go_simp
          go_at_call 106
          refine (unhide LN _ hHeld).mono ?_
          rintro e w3 ⟨a9, d9, bl9, rfl, hl9, hi9, hbw⟩
          try go_wp2_with fail
          refine hK.out _ _ (below_up hW0 hHeld hbw) (fun hHeld => ?_)
          clear hK K
          try simp only [Act.put, List.setIfInBounds_toArray, List.set_cons_zero, List.set_cons_succ]
          refine wpAnyH_take (i := 8) (oi := { dst := some 24, op := Go.Op.build 145 #[(0, Go.Operand.tmp 23)], type := 145, pos := "l07_ivf.go:61", after := #[{ on := 7, ground := Go.Ground.data }], guard := none }) (v := ?va8_10) rfl (by kernel_rfl) (by kernel_rfl) (by kernel_rfl) (fun _ _ _ h => h) (Or.inl ⟨by rfl, ?ha8_10⟩) hHeld ?ra8_10
          case ha8_10 =>
            intro wS hSw
            (try dsimp only at hSw)
            go_simp
            try with_reducible rfl
          case ra8_10 =>
          simp only [Act.put, List.setIfInBounds_toArray, List.set_cons_zero, List.set_cons_succ]
          refine wpAnyH_ready (rs := [1, 9]) (by kernel_rfl) (by simp) ?_
          refine AllReadyH.cons (o := { dst := some 17, op := Go.Op.load 24 (Go.Operand.tmp 16), type := 24, pos := "l07_ivf.go:61", after := #[{ on := 0, ground := Go.Ground.data }], guard := none }) rfl (fun K hK => ?oa1_11) (AllReadyH.cons (o := { dst := some 25, op := Go.Op.buildSlice 24 1 #[(0, Go.Operand.tmp 24)], type := 24, pos := "l07_ivf.go:61", after := #[{ on := 8, ground := Go.Ground.data }], guard := none }) rfl (fun K hK => ?oa9_11) (AllReadyH.nil))
          case oa1_11 =>
            have y1 : (w3).cell? ⟨w.heap.size + 1, 0, none⟩ = some rc := (hXD.keep hbw).at 0 _ rfl
            go_simp
            refine hK.out _ _ hHeld (fun hHeld => ?_)
            clear hK K
            try simp only [Act.put, List.setIfInBounds_toArray, List.set_cons_zero, List.set_cons_succ]
            refine wpAnyH_ready (rs := [9]) (by kernel_rfl) (by simp) ?_
            refine AllReadyH.cons (o := { dst := some 25, op := Go.Op.buildSlice 24 1 #[(0, Go.Operand.tmp 24)], type := 24, pos := "l07_ivf.go:61", after := #[{ on := 8, ground := Go.Ground.data }], guard := none }) rfl (fun K hK => ?_) AllReadyH.nil
            go_simp
            refine hK.out _ _ (hHeld.alloc (Nat.le_trans hW0 hHeld.size) _) (fun hHeld => ?_)
            clear hK K
            try simp only [Act.put, List.setIfInBounds_toArray, List.set_cons_zero, List.set_cons_succ]
            refine wpAnyH_ready (rs := [10]) (by kernel_rfl) (by simp) ?_
            refine AllReadyH.cons (o := { dst := some 26, op := Go.Op.call { callee := Go.Callee.builtin Go.Builtin.append, args := #[Go.Operand.tmp 17, Go.Operand.tmp 25], argTypes := #[24, 24] }, type := 24, pos := "l07_ivf.go:61", after := #[{ on := 1, ground := Go.Ground.data }, { on := 9, ground := Go.Ground.data }, { on := 7, ground := Go.Ground.chain }], guard := none }) rfl (fun K hK => ?_) AllReadyH.nil
            have hG3 := gCD.later hbw
            have hz3 := hbw.size
            refine step_append_Center hG3 (row := [.slice a9 c.vec.length d9]) (x := ⟨c.vec⟩) (bl := bl9) hl9 (fun q hq e => by have h1 := (gCD.own.lt q e).2; have h2 := hi9 q hq; omega) rfl _ _ rfl rfl rfl (by have := unhide HLC; omega) (by have := gCD_lo; omega) ?_
            rintro g5 cp5 w5 hG5 hb5 hE5 hl5 hz5 hor5
            have hX5 : Box w.heap.size #[rc, rl] 27 w5 (w.heap.size + 1) := (hXD.keep hbw).ext hE5 (fun e => by have := (hG3.own.lt _ e).1; omega)
            refine hK.out _ _ ((below_up hW0 hHD hbw).trans (hb5.mono (by omega))) (fun hHeld => ?_)
            clear hK K
            try simp only [Act.put, List.setIfInBounds_toArray, List.set_cons_zero, List.set_cons_succ]
            refine wpAnyH_take (i := 11) (oi := { dst := some 27, op := Go.Op.fieldAddr 27 (Go.Operand.tmp 5) 0, type := 0, pos := "l07_ivf.go:61", after := #[{ on := 0, ground := Go.Ground.phase }, { on := 1, ground := Go.Ground.phase }, { on := 2, ground := Go.Ground.phase }, { on := 3, ground := Go.Ground.phase }, { on := 4, ground := Go.Ground.phase }, { on := 5, ground := Go.Ground.phase }, { on := 6, ground := Go.Ground.phase }, { on := 7, ground := Go.Ground.phase }, { on := 8, ground := Go.Ground.phase }, { on := 9, ground := Go.Ground.phase }, { on := 10, ground := Go.Ground.phase }], guard := none }) (v := ?va11_12) rfl (by kernel_rfl) (by kernel_rfl) (by kernel_rfl) (fun _ _ _ h => h) (Or.inl ⟨by rfl, ?ha11_12⟩) hHeld ?ra11_12
            case ha11_12 =>
              intro wS hSw
              (try dsimp only at hSw)
              go_simp
              try with_reducible rfl
            case ra11_12 =>
            simp only [Act.put, List.setIfInBounds_toArray, List.set_cons_zero, List.set_cons_succ]
            refine wpAnyH_ready (rs := [12]) (by kernel_rfl) (by simp) ?_
            refine AllReadyH.cons (o := { dst := none, op := Go.Op.store 24 (Go.Operand.tmp 27) (Go.Operand.tmp 26), type := 0, pos := "l07_ivf.go:61", after := #[{ on := 11, ground := Go.Ground.data }, { on := 10, ground := Go.Ground.data }, { on := 10, ground := Go.Ground.chain }, { on := 0, ground := Go.Ground.phase }, { on := 1, ground := Go.Ground.phase }, { on := 2, ground := Go.Ground.phase }, { on := 3, ground := Go.Ground.phase }, { on := 4, ground := Go.Ground.phase }, { on := 5, ground := Go.Ground.phase }, { on := 6, ground := Go.Ground.phase }, { on := 7, ground := Go.Ground.phase }, { on := 8, ground := Go.Ground.phase }, { on := 9, ground := Go.Ground.phase }, { on := 10, ground := Go.Ground.phase }], guard := none }) rfl (fun K hK => ?_) AllReadyH.nil
            have y1 := hX5.at 0 _ rfl
            have f1 := hX5.soft 0
            have l5 := hX5.lt
            go_simp
            refine hK.out _ _ (hHeld.setCell (by simp) _) (fun hHeld => ?_)
            clear hK K
            try simp only [Act.put, List.setIfInBounds_toArray, List.set_cons_zero, List.set_cons_succ]
            refine wpAnyH_done (by kernel_rfl) ?_ _
            refine NoPanic.normal ?_
            have HX9 : Hid (Box w.heap.size #[.slice (some ⟨g5, 0, none⟩) (ck.length + 1) cp5, rl] 27 (w5.setCell ⟨w.heap.size + 1, 0, none⟩ (.slice (some ⟨g5, 0, none⟩) (ck.length + 1) cp5)) (w.heap.size + 1)) := hX5.set 0 _
            have HT9 : Hid (Two0 (w5.setCell ⟨w.heap.size + 1, 0, none⟩ (.slice (some ⟨g5, 0, none⟩) (ck.length + 1) cp5)) (w.heap.size + 2) (.slice (some ⟨g5, 0, none⟩) (ck.length + 1) cp5) rl (ck ++ [⟨c.vec⟩]) lk) := (Two0.cens (gLD.later hbw) s1 s2 x1 x2 x3 hG5 hE5 hor5 (fun q hq => by have := hi9 q hq; have := gCD_lo; omega) (fun q hq e => by have h1 := (gLD.own.lt q e).2; have h2 := hi9 q hq; omega) FD hbw hi9).ext (S := fun q => q = w.heap.size + 1) ((Ext.refl _ _).setCell ⟨w.heap.size + 1, 0, none⟩ _ rfl) (fun q h1 h2 => by omega)
            have HB9 := hide hHeld
            clear hHeld hG5 hb5 hE5 hX5 hG3 hbw gCD gLD hXD hHD
            go_wp2_with fail
            go_meet
            exact ⟨rfl, _, by rw [unhide HTK]; exact unhide HT9, unhide HX9, unhide HB9⟩
          case oa9_11 =>
            go_simp
            refine hK.out _ _ (hHeld.alloc (Nat.le_trans hW0 hHeld.size) _) (fun hHeld => ?_)
            clear hK K
            try simp only [Act.put, List.setIfInBounds_toArray, List.set_cons_zero, List.set_cons_succ]
            refine wpAnyH_ready (rs := [1]) (by kernel_rfl) (by simp) ?_
            refine AllReadyH.cons (o := { dst := some 17, op := Go.Op.load 24 (Go.Operand.tmp 16), type := 24, pos := "l07_ivf.go:61", after := #[{ on := 0, ground := Go.Ground.data }], guard := none }) rfl (fun K hK => ?_) AllReadyH.nil
            have y1 : (w3.alloc (.cells #[.slice a9 c.vec.length d9] 145)).cell? ⟨w.heap.size + 1, 0, none⟩ = some rc := ((hXD.keep hbw).grow _).at 0 _ rfl
            go_simp
            refine hK.out _ _ hHeld (fun hHeld => ?_)
            clear hK K
            try simp only [Act.put, List.setIfInBounds_toArray, List.set_cons_zero, List.set_cons_succ]
            refine wpAnyH_ready (rs := [10]) (by kernel_rfl) (by simp) ?_
            refine AllReadyH.cons (o := { dst := some 26, op := Go.Op.call { callee := Go.Callee.builtin Go.Builtin.append, args := #[Go.Operand.tmp 17, Go.Operand.tmp 25], argTypes := #[24, 24] }, type := 24, pos := "l07_ivf.go:61", after := #[{ on := 1, ground := Go.Ground.data }, { on := 9, ground := Go.Ground.data }, { on := 7, ground := Go.Ground.chain }], guard := none }) rfl (fun K hK => ?_) AllReadyH.nil
            have hG3 := gCD.later hbw
            have hz3 := hbw.size
            refine step_append_Center hG3 (row := [.slice a9 c.vec.length d9]) (x := ⟨c.vec⟩) (bl := bl9) hl9 (fun q hq e => by have h1 := (gCD.own.lt q e).2; have h2 := hi9 q hq; omega) rfl _ _ rfl rfl rfl (by have := unhide HLC; omega) (by have := gCD_lo; omega) ?_
            rintro g5 cp5 w5 hG5 hb5 hE5 hl5 hz5 hor5
            have hX5 : Box w.heap.size #[rc, rl] 27 w5 (w.heap.size + 1) := (hXD.keep hbw).ext hE5 (fun e => by have := (hG3.own.lt _ e).1; omega)
            refine hK.out _ _ ((below_up hW0 hHD hbw).trans (hb5.mono (by omega))) (fun hHeld => ?_)
            clear hK K
            try simp only [Act.put, List.setIfInBounds_toArray, List.set_cons_zero, List.set_cons_succ]
            refine wpAnyH_take (i := 11) (oi := { dst := some 27, op := Go.Op.fieldAddr 27 (Go.Operand.tmp 5) 0, type := 0, pos := "l07_ivf.go:61", after := #[{ on := 0, ground := Go.Ground.phase }, { on := 1, ground := Go.Ground.phase }, { on := 2, ground := Go.Ground.phase }, { on := 3, ground := Go.Ground.phase }, { on := 4, ground := Go.Ground.phase }, { on := 5, ground := Go.Ground.phase }, { on := 6, ground := Go.Ground.phase }, { on := 7, ground := Go.Ground.phase }, { on := 8, ground := Go.Ground.phase }, { on := 9, ground := Go.Ground.phase }, { on := 10, ground := Go.Ground.phase }], guard := none }) (v := ?va11_13) rfl (by kernel_rfl) (by kernel_rfl) (by kernel_rfl) (fun _ _ _ h => h) (Or.inl ⟨by rfl, ?ha11_13⟩) hHeld ?ra11_13
            case ha11_13 =>
              intro wS hSw
              (try dsimp only at hSw)
              go_simp
              try with_reducible rfl
            case ra11_13 =>
            simp only [Act.put, List.setIfInBounds_toArray, List.set_cons_zero, List.set_cons_succ]
            refine wpAnyH_ready (rs := [12]) (by kernel_rfl) (by simp) ?_
            refine AllReadyH.cons (o := { dst := none, op := Go.Op.store 24 (Go.Operand.tmp 27) (Go.Operand.tmp 26), type := 0, pos := "l07_ivf.go:61", after := #[{ on := 11, ground := Go.Ground.data }, { on := 10, ground := Go.Ground.data }, { on := 10, ground := Go.Ground.chain }, { on := 0, ground := Go.Ground.phase }, { on := 1, ground := Go.Ground.phase }, { on := 2, ground := Go.Ground.phase }, { on := 3, ground := Go.Ground.phase }, { on := 4, ground := Go.Ground.phase }, { on := 5, ground := Go.Ground.phase }, { on := 6, ground := Go.Ground.phase }, { on := 7, ground := Go.Ground.phase }, { on := 8, ground := Go.Ground.phase }, { on := 9, ground := Go.Ground.phase }, { on := 10, ground := Go.Ground.phase }], guard := none }) rfl (fun K hK => ?_) AllReadyH.nil
            have y1 := hX5.at 0 _ rfl
            have f1 := hX5.soft 0
            have l5 := hX5.lt
            go_simp
            refine hK.out _ _ (hHeld.setCell (by simp) _) (fun hHeld => ?_)
            clear hK K
            try simp only [Act.put, List.setIfInBounds_toArray, List.set_cons_zero, List.set_cons_succ]
            refine wpAnyH_done (by kernel_rfl) ?_ _
            refine NoPanic.normal ?_
            have HX9 : Hid (Box w.heap.size #[.slice (some ⟨g5, 0, none⟩) (ck.length + 1) cp5, rl] 27 (w5.setCell ⟨w.heap.size + 1, 0, none⟩ (.slice (some ⟨g5, 0, none⟩) (ck.length + 1) cp5)) (w.heap.size + 1)) := hX5.set 0 _
            have HT9 : Hid (Two0 (w5.setCell ⟨w.heap.size + 1, 0, none⟩ (.slice (some ⟨g5, 0, none⟩) (ck.length + 1) cp5)) (w.heap.size + 2) (.slice (some ⟨g5, 0, none⟩) (ck.length + 1) cp5) rl (ck ++ [⟨c.vec⟩]) lk) := (Two0.cens (gLD.later hbw) s1 s2 x1 x2 x3 hG5 hE5 hor5 (fun q hq => by have := hi9 q hq; have := gCD_lo; omega) (fun q hq e => by have h1 := (gLD.own.lt q e).2; have h2 := hi9 q hq; omega) FD hbw hi9).ext (S := fun q => q = w.heap.size + 1) ((Ext.refl _ _).setCell ⟨w.heap.size + 1, 0, none⟩ _ rfl) (fun q h1 h2 => by omega)
            have HB9 := hide hHeld
            clear hHeld hG5 hb5 hE5 hX5 hG3 hbw gCD gLD hXD hHD
            go_wp2_with fail
            go_meet
            exact ⟨rfl, _, by rw [unhide HTK]; exact unhide HT9, unhide HX9, unhide HB9⟩
      case rest =>
        obtain ⟨rfl, rc', hT, hX, hB⟩ := hcut
        clear hXD gCD gLD FD hHD gCD_lo s1 s2 x1 x2 x3 LN HTK HLC c1
        have hBlo : w.heap.size + 2 ≤ wc.heap.size := Nat.le_trans hW2 hB.size
        have nbm : Below wc.heap.size wc (wc.alloc (.cells #[] 139)) := (Below.refl _ _).alloc (Nat.le_refl _) _
        have HG0 : Hid (Grow Lay.tItem (wc.alloc (.cells #[] 139)) wc.heap.size 139 (.slice (some ⟨wc.heap.size, 0, none⟩) 0 0) [] [] []) := Grow.nil (World.ownsRow_lit wc #[] 0 (Nat.le_refl _) (Nat.zero_le _) rfl)
        have HX := hide hX
        have HT := hide hT
        have HB := hide hB
        have HNB := hide nbm
        clear hX hT hB nbm
        rename World => wo
        go_wp2_with fail
        go_loopw [7, 8] (fun u i wr => ∃ (j : Nat) (rows : List (List Value)) (bls : List (List Nat)), j ≤ xs.length ∧ i = .int .i64 j ∧ Grow Lay.tItem wr wo.heap.size 139 u rows (mineI cs (xs.take j) k) bls ∧ (∀ q ∈ bls.flatten, q < w.heap.size) ∧ Below wo.heap.size wo wr) (fun _ i _ => xs.length - (intOf i).toNat)
        case atStart => exact ⟨0, [], [], Nat.zero_le _, rfl, unhide HG0, by simp, unhide HNB⟩
        case round =>
          obtain ⟨j, rows, bls, hj, rfl, hG, hq, hBr⟩ := hrel
          clear HG0 HNB
          have hBW := below_up hW0 (unhide HB) hBr
          by_cases hlj : j < xs.length
          · obtain ⟨b6, o6, a7, d7, bl7, rfl, hb6, c3, c4, hl7, hi7⟩ := unhide KX wr hBW j hlj
            have hvx := unhide HXV xs[j] (List.getElem_mem hlj)
            have HMS := hide (mineI_step cs xs k j hlj)
            have LN := hide (specNear _ cs _ (xs[j]).vec wr (unhide KC wr hBW).1 (Lay.ints_reads (by
              obtain ⟨_, _, e, R⟩ := open_Item ⟨bl7, hl7⟩
              simp only [List.cons.injEq, Value.slice.injEq, and_true, true_and] at e
              obtain ⟨rfl, rfl⟩ := e
              exact R)) (unhide HFC) hvx)
            clear hvx
            generalize xs[j] = y at *
            have hml : (mineI cs (xs.take j) k).length ≤ 30 := by have := mineI_len cs (xs.take j) k; simp at this; omega
            have HBR := hide hBr
            have HQ := hide hq
            have HG := hide hG
            have HL7 := hide hl7
            have HI7 := hide hi7
            clear hBr hq hG hl7 hi7 hBW
            generalize hnr : near cs y.vec = nr at *
            go_wp2_with fail
            refine (unhide LN).mono ?_
            rintro e w3 ⟨rfl, hb3⟩
            replace HBR := hide ((unhide HBR).trans (hb3.mono (unhide HBR).size))
            replace HG := hide ((unhide HG).later hb3)
            by_cases he : nr = k
            · have hd : (((nr : Nat) : Int) == ((k : Nat) : Int)) = true := by rw [he]; simp
              have HMS2 : Hid (mineI cs (xs.take (j + 1)) k = mineI cs (xs.take j) k ++ [y]) := (unhide HMS).trans (if_pos (by simpa using he))
              have hG3 := unhide HG
              have hl3 := Lay.tItem.keep (unhide HL7) (fun q hq => hb3.block q (Lay.tItem.lt (unhide HL7) q hq))
              have hoff : ∀ q ∈ bl7, u7.ownBlock ≠ some q := fun q hq e => by have h1 := (hG3.own.lt q e).1; have h2 := unhide HI7 q hq; omega
              have hz3 : wo.heap.size ≤ w3.heap.size := (unhide HBR).size
              have c3' := cell_keep hb3 c3
              have c4' := cell_keep hb3 c4
              have HIQ : Hid (∀ q ∈ (bls ++ [bl7]).flatten, q < w.heap.size) := flat_add (unhide HQ) (unhide HI7)
              clear c3 c4 LN HMS hb3 HG HL7 he hnr
              go_wp2_with (at_builtin; refine wpList_append_Item hG3 hl3 hoff rfl _ _ rfl rfl rfl ?hn9 hz3 ?_; case hn9 => omega)
              rintro g5 cp5 w5 hG5 hb5 - hl5 hz5 -
              have HG5 := hide hG5
              have HB5 := hide ((unhide HBR).trans hb5)
              clear hG5 hb5 hG3 hl3 hoff c3' c4' HBR
              go_wp2_with fail
              go_roundw
              case rel => exact ⟨j + 1, _, _, by omega, by go_num, by rw [unhide HMS2]; exact unhide HG5, unhide HIQ, unhide HB5⟩
              case measure => simp [intOf]; omega
            · have hd : (((nr : Nat) : Int) == ((k : Nat) : Int)) = false := by rw [beq_eq_false_iff_ne]; omega
              have HMS2 : Hid (mineI cs (xs.take (j + 1)) k = mineI cs (xs.take j) k) := (unhide HMS).trans (if_neg (by simpa using he))
              clear c3 c4 LN HMS hb3 HL7 he hnr
              go_wp2_with fail
              go_roundw
              case rel => exact ⟨j + 1, _, _, by omega, by go_num, by rw [unhide HMS2]; exact unhide HG, unhide HQ, unhide HBR⟩
              case measure => simp [intOf]; omega
          · obtain rfl : j = xs.length := by omega
            rw [List.take_length] at hG
            have hml : (mineI cs xs k).length ≤ 30 := by have := mineI_len cs xs k; omega
            obtain ⟨am, dm, rfl⟩ := open_sl (hG.toReads (by omega))
            have hMv : ∀ y ∈ mineI cs xs k, y.vec.length ≤ 100000000 := fun y hy => by
              have := (vecFault_zero (unhide HXV y (List.mem_filter.1 hy).1)).1
              omega
            have LC : Hid (∀ W, Below (w.heap.size + 1) W0 W → (Lay.sl Lay.tItem).Reads W [.slice am (mineI cs xs k).length dm] (mineI cs xs k) → Calls Tryz.prog 108 #[.slice am (mineI cs xs k).length dm] W fun e w' => ∃ a d bl, e = .returned (.slice a (mineI cs xs k).length d) ∧ Lay.tIvfList.lies w' [.slice a (mineI cs xs k).length d] ⟨mineI cs xs k⟩ bl ∧ (∀ q ∈ bl, W.heap.size ≤ q) ∧ (∃ rows9 bls9, Grow Lay.tItem w' W.heap.size 139 (.slice a (mineI cs xs k).length d) rows9 (mineI cs xs k) bls9 ∧ ∀ c ∈ bls9.flatten, W.heap.size ≤ c) ∧ Below W.heap.size W w') := fun W _ hR => by
              refine (specCopyG _ (mineI cs xs k) W hR (by omega) hMv).mono ?_
              rintro e w' ⟨v', rfl, ⟨rows9, bls9, hG9, hs9⟩, hb⟩
              obtain ⟨bl, hl, hi⟩ := hG9.toLies (by omega) hs9
              obtain ⟨a, d, rfl⟩ := open_sl ⟨bl, hl⟩
              exact ⟨a, d, bl, rfl, hl, fun q hq => (hi q hq).1, ⟨rows9, bls9, hG9, hs9⟩, hb⟩
            obtain ⟨rowsC, blsC, rowsL, blsL, gC, gL, s1, s2, x1, x2, x3, F⟩ := (unhide HT).later hBr
            have hXD : Box w.heap.size #[rc', rl] 27 wr.drew (w.heap.size + 1) := ((unhide HX).keep hBr).drew
            have gCD := gC.later (Below.refl wr.heap.size wr).drew
            have gLD := gL.later (Below.refl wr.heap.size wr).drew
            have FD := F.later (Below.refl wr.heap.size wr).drew
            have gCD_lo : w.heap.size + 2 ≤ wr.drew.heap.size := Nat.le_trans hBlo hBr.size
            have hHD : Below (w.heap.size + 1) W0 wr.drew := (below_up hW0 (unhide HB) hBr).drew
            have hHM := (hG.toReads (by omega)).later (Below.refl wr.heap.size wr).drew
            rename_i _
            obtain ⟨rc, rfl⟩ : ∃ q, q = rc' := ⟨rc', rfl⟩
            clear hG hBr gC gL F hq hMv HX HT
            go_upto_region 12 with fail
            refine wp_region_noPanic ?_
            refine wp_region_held_drew (S := fun w' => Below (w.heap.size + 1) W0 w') (by kernel_rfl) hHD (fun hHeld => ?_)
            generalize wr.drew = wD at hHeld hXD gCD gLD FD hHD hHM gCD_lo ⊢
            refine wpAnyH_take (i := 0) (oi := { dst := some 51, op := Go.Op.fieldAddr 27 (Go.Operand.tmp 5) 1, type := 0, pos := "l07_ivf.go:68", after := #[], guard := none }) (v := ?vb0_1) rfl (by kernel_rfl) (by kernel_rfl) (by kernel_rfl) (fun _ _ _ h => h) (Or.inl ⟨by rfl, ?hb0_1⟩) hHeld ?rb0_1
            case hb0_1 =>
              intro wS hSw
              (try dsimp only at hSw)
              go_simp
              try with_reducible rfl
            case rb0_1 =>
            simp only [Act.put, List.setIfInBounds_toArray, List.set_cons_zero, List.set_cons_succ]
            refine wpAnyH_take (i := 2) (oi := { dst := some 53, op := Go.Op.move (Go.Operand.tmp 7), type := 35, pos := "l07_ivf.go:68", after := #[], guard := none }) (v := ?vb2_2) rfl (by kernel_rfl) (by kernel_rfl) (by kernel_rfl) (fun _ _ _ h => h) (Or.inl ⟨by rfl, ?hb2_2⟩) hHeld ?rb2_2
            case hb2_2 =>
              intro wS hSw
              (try dsimp only at hSw)
              go_simp
              try with_reducible rfl
            case rb2_2 =>
            simp only [Act.put, List.setIfInBounds_toArray, List.set_cons_zero, List.set_cons_succ]
            refine wpAnyH_ready (rs := [1, 3]) (by kernel_rfl) (by simp) ?_
            refine AllReadyH.cons (o := { dst := some 52, op := Go.Op.load 25 (Go.Operand.tmp 51), type := 25, pos := "l07_ivf.go:68", after := #[{ on := 0, ground := Go.Ground.data }], guard := none }) rfl (fun K hK => ?ob1_3) (AllReadyH.cons (o := { dst := some 54, op := Go.Op.call { callee := Go.Callee.value (Go.Operand.func 108), args := #[Go.Operand.tmp 53], argTypes := #[35] }, type := 35, pos := "l07_ivf.go:68", after := #[{ on := 2, ground := Go.Ground.data }], guard := none }) rfl (fun K hK => ?ob3_3) (AllReadyH.nil))
            case ob1_3 =>
              have y1 : (wD).cell? ⟨w.heap.size + 1, 1, none⟩ = some rl := hXD.at 1 _ rfl
              go_simp
              refine hK.out _ _ hHeld (fun hHeld => ?_)
              clear hK K
              try simp only [Act.put, List.setIfInBounds_toArray, List.set_cons_zero, List.set_cons_succ]
              refine wpAnyH_ready (rs := [3]) (by kernel_rfl) (by simp) ?_
              refine AllReadyH.cons (o := { dst := some 54, op := Go.Op.call { callee := Go.Callee.value (Go.Operand.func 108), args := #[Go.Operand.tmp 53], argTypes := #[35] }, type := 35, pos := "l07_ivf.go:68", after := #[{ on := 2, ground := Go.Ground.data }], guard := none }) rfl (fun K hK => ?_) AllReadyH.nil
              go_simp
              go_at_call 108
              refine (unhide LC _ hHeld hHM).mono ?_
              rintro e w3 ⟨a9, d9, bl9, rfl, hl9, hi9, ⟨rows9, bls9, hG9, hs9⟩, hbw⟩
              try go_wp2_with fail
              refine hK.out _ _ (below_up hW0 hHeld hbw) (fun hHeld => ?_)
              clear hK K
              try simp only [Act.put, List.setIfInBounds_toArray, List.set_cons_zero, List.set_cons_succ]
              refine wpAnyH_take (i := 4) (oi := { dst := some 55, op := Go.Op.build 91 #[(0, Go.Operand.tmp 54)], type := 91, pos := "l07_ivf.go:68", after := #[{ on := 3, ground := Go.Ground.data }], guard := none }) (v := ?vb4_4) rfl (by kernel_rfl) (by kernel_rfl) (by kernel_rfl) (fun _ _ _ h => h) (Or.inl ⟨by rfl, ?hb4_4⟩) hHeld ?rb4_4
              case hb4_4 =>
                intro wS hSw
                (try dsimp only at hSw)
                go_simp
                try with_reducible rfl
              case rb4_4 =>
              simp only [Act.put, List.setIfInBounds_toArray, List.set_cons_zero, List.set_cons_succ]
              refine wpAnyH_ready (rs := [5]) (by kernel_rfl) (by simp) ?_
              refine AllReadyH.cons (o := { dst := some 56, op := Go.Op.buildSlice 25 1 #[(0, Go.Operand.tmp 55)], type := 25, pos := "l07_ivf.go:68", after := #[{ on := 4, ground := Go.Ground.data }], guard := none }) rfl (fun K hK => ?_) AllReadyH.nil
              go_simp
              refine hK.out _ _ (hHeld.alloc (Nat.le_trans hW0 hHeld.size) _) (fun hHeld => ?_)
              clear hK K
              try simp only [Act.put, List.setIfInBounds_toArray, List.set_cons_zero, List.set_cons_succ]
              refine wpAnyH_ready (rs := [6]) (by kernel_rfl) (by simp) ?_
              refine AllReadyH.cons (o := { dst := some 57, op := Go.Op.call { callee := Go.Callee.builtin Go.Builtin.append, args := #[Go.Operand.tmp 52, Go.Operand.tmp 56], argTypes := #[25, 25] }, type := 25, pos := "l07_ivf.go:68", after := #[{ on := 1, ground := Go.Ground.data }, { on := 5, ground := Go.Ground.data }, { on := 3, ground := Go.Ground.chain }], guard := none }) rfl (fun K hK => ?_) AllReadyH.nil
              have hG3 := gLD.later hbw
              have hz3 := hbw.size
              refine step_append_IvfList hG3 (row := [.slice a9 (mineI cs xs k).length d9]) (x := ⟨mineI cs xs k⟩) (bl := bl9) hl9 (fun q hq e => by have h1 := (gLD.own.lt q e).2; have h2 := hi9 q hq; omega) rfl _ _ rfl rfl rfl (by have := unhide HLL; omega) (by have := gCD_lo; omega) ?_
              rintro g5 cp5 w5 hG5 hb5 hE5 hl5 hz5 hor5
              have hX5 : Box w.heap.size #[rc, rl] 27 w5 (w.heap.size + 1) := (hXD.keep hbw).ext hE5 (fun e => by have := (hG3.own.lt _ e).1; omega)
              refine hK.out _ _ ((below_up hW0 hHD hbw).trans (hb5.mono (by omega))) (fun hHeld => ?_)
              clear hK K
              try simp only [Act.put, List.setIfInBounds_toArray, List.set_cons_zero, List.set_cons_succ]
              refine wpAnyH_take (i := 7) (oi := { dst := some 58, op := Go.Op.fieldAddr 27 (Go.Operand.tmp 5) 1, type := 0, pos := "l07_ivf.go:68", after := #[{ on := 0, ground := Go.Ground.phase }, { on := 1, ground := Go.Ground.phase }, { on := 2, ground := Go.Ground.phase }, { on := 3, ground := Go.Ground.phase }, { on := 4, ground := Go.Ground.phase }, { on := 5, ground := Go.Ground.phase }, { on := 6, ground := Go.Ground.phase }], guard := none }) (v := ?vb7_5) rfl (by kernel_rfl) (by kernel_rfl) (by kernel_rfl) (fun _ _ _ h => h) (Or.inl ⟨by rfl, ?hb7_5⟩) hHeld ?rb7_5
              case hb7_5 =>
                intro wS hSw
                (try dsimp only at hSw)
                go_simp
                try with_reducible rfl
              case rb7_5 =>
              simp only [Act.put, List.setIfInBounds_toArray, List.set_cons_zero, List.set_cons_succ]
              refine wpAnyH_ready (rs := [8]) (by kernel_rfl) (by simp) ?_
              refine AllReadyH.cons (o := { dst := none, op := Go.Op.store 25 (Go.Operand.tmp 58) (Go.Operand.tmp 57), type := 0, pos := "l07_ivf.go:68", after := #[{ on := 7, ground := Go.Ground.data }, { on := 6, ground := Go.Ground.data }, { on := 6, ground := Go.Ground.chain }, { on := 0, ground := Go.Ground.phase }, { on := 1, ground := Go.Ground.phase }, { on := 2, ground := Go.Ground.phase }, { on := 3, ground := Go.Ground.phase }, { on := 4, ground := Go.Ground.phase }, { on := 5, ground := Go.Ground.phase }, { on := 6, ground := Go.Ground.phase }], guard := none }) rfl (fun K hK => ?_) AllReadyH.nil
              have y1 := hX5.at 1 _ rfl
              have f1 := hX5.soft 1
              have l5 := hX5.lt
              go_simp
              refine hK.out _ _ (hHeld.setCell (by simp) _) (fun hHeld => ?_)
              clear hK K
              try simp only [Act.put, List.setIfInBounds_toArray, List.set_cons_zero, List.set_cons_succ]
              refine wpAnyH_done (by kernel_rfl) ?_ _
              refine NoPanic.normal ?_
              have HX9 : Hid (Box w.heap.size #[rc, .slice (some ⟨g5, 0, none⟩) (lk.length + 1) cp5] 27 (w5.setCell ⟨w.heap.size + 1, 1, none⟩ (.slice (some ⟨g5, 0, none⟩) (lk.length + 1) cp5)) (w.heap.size + 1)) := hX5.set 1 _
              have HT9 : Hid (Two0 (w5.setCell ⟨w.heap.size + 1, 1, none⟩ (.slice (some ⟨g5, 0, none⟩) (lk.length + 1) cp5)) (w.heap.size + 2) rc (.slice (some ⟨g5, 0, none⟩) (lk.length + 1) cp5) (cs.take (k + 1)) (lk ++ [⟨mineI cs xs k⟩])) := (Two0.listsA (gCD.later hbw) s1 s2 x1 x2 x3 hG5 hE5 hor5 (fun q hq => by have := hi9 q hq; have := gCD_lo; omega) (fun q hq e => by have h1 := (gCD.own.lt q e).2; have h2 := hi9 q hq; omega) FD hbw hi9 gCD gLD hG9 hs9 gCD_lo).ext (S := fun q => q = w.heap.size + 1) ((Ext.refl _ _).setCell ⟨w.heap.size + 1, 1, none⟩ _ rfl) (fun q h1 h2 => by omega)
              have HB9 := hide hHeld
              clear hHeld hG5 hb5 hE5 hX5 hG3 hbw gCD gLD hXD hHD hHM
              go_wp2_with fail
              go_roundw
              case rel => exact ⟨k + 1, _, _, by omega, by go_num, unhide HX9, by rw [unhide HTL]; exact unhide HT9, unhide HB9⟩
              case measure => simp [intOf]; omega
            case ob3_3 =>
              go_simp
              go_at_call 108
              refine (unhide LC _ hHeld hHM).mono ?_
              rintro e w3 ⟨a9, d9, bl9, rfl, hl9, hi9, ⟨rows9, bls9, hG9, hs9⟩, hbw⟩
              try go_wp2_with fail
              refine hK.out _ _ (below_up hW0 hHeld hbw) (fun hHeld => ?_)
              clear hK K
              try simp only [Act.put, List.setIfInBounds_toArray, List.set_cons_zero, List.set_cons_succ]
              refine wpAnyH_take (i := 4) (oi := { dst := some 55, op := Go.Op.build 91 #[(0, Go.Operand.tmp 54)], type := 91, pos := "l07_ivf.go:68", after := #[{ on := 3, ground := Go.Ground.data }], guard := none }) (v := ?vb4_6) rfl (by kernel_rfl) (by kernel_rfl) (by kernel_rfl) (fun _ _ _ h => h) (Or.inl ⟨by rfl, ?hb4_6⟩) hHeld ?rb4_6
              case hb4_6 =>
                intro wS hSw
                (try dsimp only at hSw)
                go_simp
                try with_reducible rfl
              case rb4_6 =>
              simp only [Act.put, List.setIfInBounds_toArray, List.set_cons_zero, List.set_cons_succ]
              refine wpAnyH_ready (rs := [1, 5]) (by kernel_rfl) (by simp) ?_
              refine AllReadyH.cons (o := { dst := some 52, op := Go.Op.load 25 (Go.Operand.tmp 51), type := 25, pos := "l07_ivf.go:68", after := #[{ on := 0, ground := Go.Ground.data }], guard := none }) rfl (fun K hK => ?ob1_7) (AllReadyH.cons (o := { dst := some 56, op := Go.Op.buildSlice 25 1 #[(0, Go.Operand.tmp 55)], type := 25, pos := "l07_ivf.go:68", after := #[{ on := 4, ground := Go.Ground.data }], guard := none }) rfl (fun K hK => ?ob5_7) (AllReadyH.nil))
              case ob1_7 =>
                have y1 : (w3).cell? ⟨w.heap.size + 1, 1, none⟩ = some rl := (hXD.keep hbw).at 1 _ rfl
                go_simp
                refine hK.out _ _ hHeld (fun hHeld => ?_)
                clear hK K
                try simp only [Act.put, List.setIfInBounds_toArray, List.set_cons_zero, List.set_cons_succ]
                refine wpAnyH_ready (rs := [5]) (by kernel_rfl) (by simp) ?_
                refine AllReadyH.cons (o := { dst := some 56, op := Go.Op.buildSlice 25 1 #[(0, Go.Operand.tmp 55)], type := 25, pos := "l07_ivf.go:68", after := #[{ on := 4, ground := Go.Ground.data }], guard := none }) rfl (fun K hK => ?_) AllReadyH.nil
                go_simp
                refine hK.out _ _ (hHeld.alloc (Nat.le_trans hW0 hHeld.size) _) (fun hHeld => ?_)
                clear hK K
                try simp only [Act.put, List.setIfInBounds_toArray, List.set_cons_zero, List.set_cons_succ]
                refine wpAnyH_ready (rs := [6]) (by kernel_rfl) (by simp) ?_
                refine AllReadyH.cons (o := { dst := some 57, op := Go.Op.call { callee := Go.Callee.builtin Go.Builtin.append, args := #[Go.Operand.tmp 52, Go.Operand.tmp 56], argTypes := #[25, 25] }, type := 25, pos := "l07_ivf.go:68", after := #[{ on := 1, ground := Go.Ground.data }, { on := 5, ground := Go.Ground.data }, { on := 3, ground := Go.Ground.chain }], guard := none }) rfl (fun K hK => ?_) AllReadyH.nil
                have hG3 := gLD.later hbw
                have hz3 := hbw.size
                refine step_append_IvfList hG3 (row := [.slice a9 (mineI cs xs k).length d9]) (x := ⟨mineI cs xs k⟩) (bl := bl9) hl9 (fun q hq e => by have h1 := (gLD.own.lt q e).2; have h2 := hi9 q hq; omega) rfl _ _ rfl rfl rfl (by have := unhide HLL; omega) (by have := gCD_lo; omega) ?_
                rintro g5 cp5 w5 hG5 hb5 hE5 hl5 hz5 hor5
                have hX5 : Box w.heap.size #[rc, rl] 27 w5 (w.heap.size + 1) := (hXD.keep hbw).ext hE5 (fun e => by have := (hG3.own.lt _ e).1; omega)
                refine hK.out _ _ ((below_up hW0 hHD hbw).trans (hb5.mono (by omega))) (fun hHeld => ?_)
                clear hK K
                try simp only [Act.put, List.setIfInBounds_toArray, List.set_cons_zero, List.set_cons_succ]
                refine wpAnyH_take (i := 7) (oi := { dst := some 58, op := Go.Op.fieldAddr 27 (Go.Operand.tmp 5) 1, type := 0, pos := "l07_ivf.go:68", after := #[{ on := 0, ground := Go.Ground.phase }, { on := 1, ground := Go.Ground.phase }, { on := 2, ground := Go.Ground.phase }, { on := 3, ground := Go.Ground.phase }, { on := 4, ground := Go.Ground.phase }, { on := 5, ground := Go.Ground.phase }, { on := 6, ground := Go.Ground.phase }], guard := none }) (v := ?vb7_8) rfl (by kernel_rfl) (by kernel_rfl) (by kernel_rfl) (fun _ _ _ h => h) (Or.inl ⟨by rfl, ?hb7_8⟩) hHeld ?rb7_8
                case hb7_8 =>
                  intro wS hSw
                  (try dsimp only at hSw)
                  go_simp
                  try with_reducible rfl
                case rb7_8 =>
                simp only [Act.put, List.setIfInBounds_toArray, List.set_cons_zero, List.set_cons_succ]
                refine wpAnyH_ready (rs := [8]) (by kernel_rfl) (by simp) ?_
                refine AllReadyH.cons (o := { dst := none, op := Go.Op.store 25 (Go.Operand.tmp 58) (Go.Operand.tmp 57), type := 0, pos := "l07_ivf.go:68", after := #[{ on := 7, ground := Go.Ground.data }, { on := 6, ground := Go.Ground.data }, { on := 6, ground := Go.Ground.chain }, { on := 0, ground := Go.Ground.phase }, { on := 1, ground := Go.Ground.phase }, { on := 2, ground := Go.Ground.phase }, { on := 3, ground := Go.Ground.phase }, { on := 4, ground := Go.Ground.phase }, { on := 5, ground := Go.Ground.phase }, { on := 6, ground := Go.Ground.phase }], guard := none }) rfl (fun K hK => ?_) AllReadyH.nil
                have y1 := hX5.at 1 _ rfl
                have f1 := hX5.soft 1
                have l5 := hX5.lt
                go_simp
                refine hK.out _ _ (hHeld.setCell (by simp) _) (fun hHeld => ?_)
                clear hK K
                try simp only [Act.put, List.setIfInBounds_toArray, List.set_cons_zero, List.set_cons_succ]
                refine wpAnyH_done (by kernel_rfl) ?_ _
                refine NoPanic.normal ?_
                have HX9 : Hid (Box w.heap.size #[rc, .slice (some ⟨g5, 0, none⟩) (lk.length + 1) cp5] 27 (w5.setCell ⟨w.heap.size + 1, 1, none⟩ (.slice (some ⟨g5, 0, none⟩) (lk.length + 1) cp5)) (w.heap.size + 1)) := hX5.set 1 _
                have HT9 : Hid (Two0 (w5.setCell ⟨w.heap.size + 1, 1, none⟩ (.slice (some ⟨g5, 0, none⟩) (lk.length + 1) cp5)) (w.heap.size + 2) rc (.slice (some ⟨g5, 0, none⟩) (lk.length + 1) cp5) (cs.take (k + 1)) (lk ++ [⟨mineI cs xs k⟩])) := (Two0.listsA (gCD.later hbw) s1 s2 x1 x2 x3 hG5 hE5 hor5 (fun q hq => by have := hi9 q hq; have := gCD_lo; omega) (fun q hq e => by have h1 := (gCD.own.lt q e).2; have h2 := hi9 q hq; omega) FD hbw hi9 gCD gLD hG9 hs9 gCD_lo).ext (S := fun q => q = w.heap.size + 1) ((Ext.refl _ _).setCell ⟨w.heap.size + 1, 1, none⟩ _ rfl) (fun q h1 h2 => by omega)
                have HB9 := hide hHeld
                clear hHeld hG5 hb5 hE5 hX5 hG3 hbw gCD gLD hXD hHD hHM
                go_wp2_with fail
                go_roundw
                case rel => exact ⟨k + 1, _, _, by omega, by go_num, unhide HX9, by rw [unhide HTL]; exact unhide HT9, unhide HB9⟩
                case measure => simp [intOf]; omega
              case ob5_7 =>
                go_simp
                refine hK.out _ _ (hHeld.alloc (Nat.le_trans hW0 hHeld.size) _) (fun hHeld => ?_)
                clear hK K
                try simp only [Act.put, List.setIfInBounds_toArray, List.set_cons_zero, List.set_cons_succ]
                refine wpAnyH_ready (rs := [1]) (by kernel_rfl) (by simp) ?_
                refine AllReadyH.cons (o := { dst := some 52, op := Go.Op.load 25 (Go.Operand.tmp 51), type := 25, pos := "l07_ivf.go:68", after := #[{ on := 0, ground := Go.Ground.data }], guard := none }) rfl (fun K hK => ?_) AllReadyH.nil
                have y1 : (w3.alloc (.cells #[.slice a9 (mineI cs xs k).length d9] 91)).cell? ⟨w.heap.size + 1, 1, none⟩ = some rl := ((hXD.keep hbw).grow _).at 1 _ rfl
                go_simp
                refine hK.out _ _ hHeld (fun hHeld => ?_)
                clear hK K
                try simp only [Act.put, List.setIfInBounds_toArray, List.set_cons_zero, List.set_cons_succ]
                refine wpAnyH_ready (rs := [6]) (by kernel_rfl) (by simp) ?_
                refine AllReadyH.cons (o := { dst := some 57, op := Go.Op.call { callee := Go.Callee.builtin Go.Builtin.append, args := #[Go.Operand.tmp 52, Go.Operand.tmp 56], argTypes := #[25, 25] }, type := 25, pos := "l07_ivf.go:68", after := #[{ on := 1, ground := Go.Ground.data }, { on := 5, ground := Go.Ground.data }, { on := 3, ground := Go.Ground.chain }], guard := none }) rfl (fun K hK => ?_) AllReadyH.nil
                have hG3 := gLD.later hbw
                have hz3 := hbw.size
                refine step_append_IvfList hG3 (row := [.slice a9 (mineI cs xs k).length d9]) (x := ⟨mineI cs xs k⟩) (bl := bl9) hl9 (fun q hq e => by have h1 := (gLD.own.lt q e).2; have h2 := hi9 q hq; omega) rfl _ _ rfl rfl rfl (by have := unhide HLL; omega) (by have := gCD_lo; omega) ?_
                rintro g5 cp5 w5 hG5 hb5 hE5 hl5 hz5 hor5
                have hX5 : Box w.heap.size #[rc, rl] 27 w5 (w.heap.size + 1) := (hXD.keep hbw).ext hE5 (fun e => by have := (hG3.own.lt _ e).1; omega)
                refine hK.out _ _ ((below_up hW0 hHD hbw).trans (hb5.mono (by omega))) (fun hHeld => ?_)
                clear hK K
                try simp only [Act.put, List.setIfInBounds_toArray, List.set_cons_zero, List.set_cons_succ]
                refine wpAnyH_take (i := 7) (oi := { dst := some 58, op := Go.Op.fieldAddr 27 (Go.Operand.tmp 5) 1, type := 0, pos := "l07_ivf.go:68", after := #[{ on := 0, ground := Go.Ground.phase }, { on := 1, ground := Go.Ground.phase }, { on := 2, ground := Go.Ground.phase }, { on := 3, ground := Go.Ground.phase }, { on := 4, ground := Go.Ground.phase }, { on := 5, ground := Go.Ground.phase }, { on := 6, ground := Go.Ground.phase }], guard := none }) (v := ?vb7_9) rfl (by kernel_rfl) (by kernel_rfl) (by kernel_rfl) (fun _ _ _ h => h) (Or.inl ⟨by rfl, ?hb7_9⟩) hHeld ?rb7_9
                case hb7_9 =>
                  intro wS hSw
                  (try dsimp only at hSw)
                  go_simp
                  try with_reducible rfl
                case rb7_9 =>
                simp only [Act.put, List.setIfInBounds_toArray, List.set_cons_zero, List.set_cons_succ]
                refine wpAnyH_ready (rs := [8]) (by kernel_rfl) (by simp) ?_
                refine AllReadyH.cons (o := { dst := none, op := Go.Op.store 25 (Go.Operand.tmp 58) (Go.Operand.tmp 57), type := 0, pos := "l07_ivf.go:68", after := #[{ on := 7, ground := Go.Ground.data }, { on := 6, ground := Go.Ground.data }, { on := 6, ground := Go.Ground.chain }, { on := 0, ground := Go.Ground.phase }, { on := 1, ground := Go.Ground.phase }, { on := 2, ground := Go.Ground.phase }, { on := 3, ground := Go.Ground.phase }, { on := 4, ground := Go.Ground.phase }, { on := 5, ground := Go.Ground.phase }, { on := 6, ground := Go.Ground.phase }], guard := none }) rfl (fun K hK => ?_) AllReadyH.nil
                have y1 := hX5.at 1 _ rfl
                have f1 := hX5.soft 1
                have l5 := hX5.lt
                go_simp
                refine hK.out _ _ (hHeld.setCell (by simp) _) (fun hHeld => ?_)
                clear hK K
                try simp only [Act.put, List.setIfInBounds_toArray, List.set_cons_zero, List.set_cons_succ]
                refine wpAnyH_done (by kernel_rfl) ?_ _
                refine NoPanic.normal ?_
                have HX9 : Hid (Box w.heap.size #[rc, .slice (some ⟨g5, 0, none⟩) (lk.length + 1) cp5] 27 (w5.setCell ⟨w.heap.size + 1, 1, none⟩ (.slice (some ⟨g5, 0, none⟩) (lk.length + 1) cp5)) (w.heap.size + 1)) := hX5.set 1 _
                have HT9 : Hid (Two0 (w5.setCell ⟨w.heap.size + 1, 1, none⟩ (.slice (some ⟨g5, 0, none⟩) (lk.length + 1) cp5)) (w.heap.size + 2) rc (.slice (some ⟨g5, 0, none⟩) (lk.length + 1) cp5) (cs.take (k + 1)) (lk ++ [⟨mineI cs xs k⟩])) := (Two0.listsA (gCD.later hbw) s1 s2 x1 x2 x3 hG5 hE5 hor5 (fun q hq => by have := hi9 q hq; have := gCD_lo; omega) (fun q hq e => by have h1 := (gCD.own.lt q e).2; have h2 := hi9 q hq; omega) FD hbw hi9 gCD gLD hG9 hs9 gCD_lo).ext (S := fun q => q = w.heap.size + 1) ((Ext.refl _ _).setCell ⟨w.heap.size + 1, 1, none⟩ _ rfl) (fun q h1 h2 => by omega)
                have HB9 := hide hHeld
                clear hHeld hG5 hb5 hE5 hX5 hG3 hbw gCD gLD hXD hHD hHM
                go_wp2_with fail
                go_roundw
                case rel => exact ⟨k + 1, _, _, by omega, by go_num, unhide HX9, by rw [unhide HTL]; exact unhide HT9, unhide HB9⟩
                case measure => simp [intOf]; omega
    · obtain rfl : k = cs.length := by omega
      rw [List.take_length, show (buildI cs xs).lists.take cs.length = (buildI cs xs).lists by rw [← buildI_len cs xs, List.take_length]] at hT
      have HT0 := hide hT
      have bR : Box w.heap.size #[.slice none 0 0, .slice none 0 0] 27 wr w.heap.size := ⟨Nat.le_refl _, (hB.block _ (by omega)).trans (unhide HR).2⟩
      obtain ⟨_, _, _, _, gC, gL, -⟩ := hT
      obtain ⟨a8, d8, rfl⟩ := open_sl (gC.toReads (by omega))
      obtain ⟨a9, d9, rfl⟩ := open_sl (gL.toReads (by rw [buildI_len]; omega))
      have z0 : wr.cell? ⟨w.heap.size, 0, none⟩ = some (.slice none 0 0) := bR.at 0 _ rfl
      have z1 : wr.cell? ⟨w.heap.size, 1, none⟩ = some (.slice none 0 0) := bR.at 1 _ rfl
      have y0 := hX.at 0 _ rfl
      have y1 := hX.at 1 _ rfl
      have f0 := bR.soft 0
      have f1 := bR.soft 1
      have l0 := bR.lt
      have HB9 := hide ((unhide HBW).trans (hB.mono (by omega)))
      clear hB hX bR gC gL HR
      generalize hm9 : (buildI cs xs).lists.length = n9 at *
      clear hm9
      go_wp2_with fail
      refine bodyPost_ret (v := .agg #[.slice a8 cs.length d8, .slice a9 n9 d9]) (by simp [results, Tryz.results65, go_sem, z0, z1]) rfl ?_
      have hE : Ext (fun c => c = w.heap.size) wr ((wr.setCell ⟨w.heap.size, 0, none⟩ (.slice a8 cs.length d8)).setCell ⟨w.heap.size, 1, none⟩ (.slice a9 n9 d9)) := ((Ext.refl (fun c => c = w.heap.size) _).setCell ⟨w.heap.size, 0, none⟩ _ rfl).setCell ⟨w.heap.size, 1, none⟩ _ rfl
      exact ⟨_, _, rfl, (unhide HT0).ext hE (fun c h1 h2 => by omega), ((unhide HB9).setCell (by simp) _).setCell (by simp) _⟩

end Go.Proofs.YtggnnbdjihihiaaGreat

namespace Go.Proofs.YtggnnbdjihihiaaGreat
open Go.RowKit

/-- An index of the draw's own; the source has gone on. -/
def RightPost (b m : Nat) (cv : Value) (z : World) (e : Ending) (z' : World) : Prop :=
  ∃ (rc rl : Value) (cs : List DCenter) (xs : List DItem) (m' : Nat), e = .returned (.agg #[rc, rl]) ∧ Two0 z' z.heap.size rc rl cs (buildI cs xs).lists ∧ (1 ≤ cs.length ∧ cs.length ≤ 4 ∧ xs.length ≤ 11) ∧
    SrcAt z' b cv m' ∧ m' ≤ m + 300 ∧ IsCode b z' cv ∧ z.grownBy z' (some b)

set_option maxRecDepth 10000 in
set_option maxHeartbeats 2000000 in
theorem drawR7 (b m : Nat) (cv : Value) (z : World) (hs : SrcAt z b cv m) (hc : IsCode b z cv) (hm : m ≤ 900000) :
    Calls Tryz.prog 119 #[.pointer (some ⟨b, 0, none⟩)] z (RightPost b m cv z) := by
  unfold RightPost
  have hbz := hs.lt
  have nz : Below z.heap.size z (z.alloc (.cells #[.slice none 0 0, .slice none 0 0] 27)) := (Below.refl _ _).alloc (Nat.le_refl _) _
  have bR : Box z.heap.size #[.slice none 0 0, .slice none 0 0] 27 (z.alloc (.cells #[.slice none 0 0, .slice none 0 0] 27)) z.heap.size := newBox (Nat.le_refl _)
  replace hs := hs.on nz
  replace hc := hc.on (Nat.le_of_lt hbz) nz
  have hwz : (z.alloc (.cells #[.slice none 0 0, .slice none 0 0] 27)).heap.size = z.heap.size + 1 := by simp
  have HNZ := hide nz
  have HBR := hide bR
  clear nz bR
  go_enter Tryz.func119, Tryz.ntmps119
  have hbw := hs.lt
  have nb : Below (z.alloc (.cells #[.slice none 0 0, .slice none 0 0] 27)).heap.size (z.alloc (.cells #[.slice none 0 0, .slice none 0 0] 27)) ((z.alloc (.cells #[.slice none 0 0, .slice none 0 0] 27)).alloc (.cells #[] 145)) := (Below.refl _ _).alloc (Nat.le_refl _) (.cells #[] 145)
  have G0 : Grow Lay.tCenter ((z.alloc (.cells #[.slice none 0 0, .slice none 0 0] 27)).alloc (.cells #[] 145)) (z.alloc (.cells #[.slice none 0 0, .slice none 0 0] 27)).heap.size 145 (.slice (some ⟨(z.alloc (.cells #[.slice none 0 0, .slice none 0 0] 27)).heap.size, 0, none⟩) 0 0) [] [] [] := Grow.nil (World.ownsRow_lit _ #[] 0 (Nat.le_refl _) (Nat.zero_le _) rfl)
  have L := next b m cv 4 ((z.alloc (.cells #[.slice none 0 0, .slice none 0 0] 27)).alloc (.cells #[] 145)) (hs.on nb) (hc.on (Nat.le_of_lt hbw) nb) (by omega) (by omega) (by omega)
  have HL := hide L
  have HG := hide G0
  have HN := hide nb
  clear L G0 nb hs hc
  go_wp2_with fail
  rw [← hwz]
  generalize hwd : z.alloc (.cells #[.slice none 0 0, .slice none 0 0] 27) = w at *
  have HWZ := hide hwz
  clear hwd hwz
  refine (unhide HL).mono ?_
  rintro e w1 ⟨r, rfl, hr, s1, c1, g1⟩
  have hr2 : r ≤ 3 := by omega
  have HG1 := hide ((unhide HG).grown g1 hbw (by simp))
  have HS1 := hide s1
  have HC1 := hide c1
  have HGR1 : Hid (w.grownBy w1 (some b)) := ⟨g1.os.trans (unhide HN).os, g1.tape.trans (unhide HN).tape, g1.output.trans (unhide HN).output, Nat.le_trans (unhide HN).size g1.size, fun i hi hn => (g1.block i (Nat.lt_of_lt_of_le hi (unhide HN).size) hn).trans ((unhide HN).block i hi)⟩
  clear s1 c1 g1 HL HG HN hr
  go_wp2_with fail
  go_loopw [3, 4] (fun v kk wr => ∃ (j : Nat) (rows : List (List Value)) (cs : List DCenter) (bls : List (List Nat)) (m' : Nat), j ≤ 4 ∧ kk = .int .i64 j ∧ Grow Lay.tCenter wr w.heap.size 145 v rows cs bls ∧ (∀ c ∈ bls.flatten, w.heap.size ≤ c) ∧ (∀ c ∈ cs, vecFault c.vec = 0) ∧ cs.length + j = r + 1 ∧
      SrcAt wr b cv m' ∧ m' + 9 * j ≤ m + 40 ∧ IsCode b wr cv ∧ w.grownBy wr (some b)) (fun _ kk _ => (intOf kk).toNat)
  case atStart => exact ⟨r + 1, [], [], [], m + 1, by omega, by go_num, unhide HG1, by simp, by simp, by simp, unhide HS1, by omega, unhide HC1, unhide HGR1⟩
  case round =>
    obtain ⟨j, rows, cs, bls, m', hj, rfl, hG, hsf, hcv, hlen, hS, hm', hC, hgr⟩ := hrel
    clear HG1 HS1 HC1 HGR1
    by_cases hlt : 0 < j
    · have L := draw b m' cv wr hS hC (by omega)
      have HL2 := hide L
      have HG := hide hG
      have HSF := hide hsf
      have HCV := hide hcv
      have HGR := hide hgr
      have HLE := hide hlen
      have hcl : cs.length ≤ 4 := by omega
      clear L hG hsf hcv hS hC hgr hlen
      go_wp2_with fail
      refine (unhide HL2).mono ?_
      rintro e w3 ⟨vd, ds, rfl, hd3, hdr, hod, s3, c3, g3⟩
      have hz3 := g3.size
      have hG3 := (unhide HG).grown g3 hbw (unhide HSF)
      have hGR3 : w.grownBy w3 (some b) := grown_trans (unhide HGR) g3
      have hdw : ∀ z ∈ ds, (Lit.int .i64 z).wf = true := fun z hz => wf_of_bd (by have := hdr z hz; omega)
      rw [← hd3] at hod
      obtain ⟨bl9, ⟨hl9, -, -⟩, hi9⟩ := Lay.ownInts hdw (by omega) hod
      obtain ⟨a9, d9, rfl⟩ := open_sl ⟨bl9, hl9⟩
      have hlC : Lay.tCenter.lies w3 [.slice a9 ds.length d9] ⟨ds⟩ bl9 := hl9
      have hoff : ∀ c ∈ bl9, u3.ownBlock ≠ some c := fun c hc e => by
        have h1 := (hi9 c hc).1
        have h2 := ((unhide HG).own.lt c e).2
        omega
      have hwz : w.heap.size ≤ w3.heap.size := hGR3.size
      have HSF4 : Hid (∀ c ∈ (bls ++ [bl9]).flatten, w.heap.size ≤ c) := flat_add (unhide HSF) (fun c hc => by have := (hi9 c hc).1; have := (unhide HGR).size; omega)
      have HCV4 : Hid (∀ c ∈ cs ++ [(⟨ds⟩ : DCenter)], vecFault c.vec = 0) := fun c hc => by
        rcases List.mem_append.1 hc with hc | hc
        · exact unhide HCV c hc
        · rw [List.mem_singleton.1 hc]; exact vec_right hd3 hdr
      have HS3 := hide s3
      have HC3 := hide c3
      have HGR3 := hide hGR3
      clear hod hdw hdr s3 c3 g3 HL2 hGR3 hi9 hl9 hd3 HG
      go_wp2_with (at_builtin; refine wpList_append_Center hG3 hlC hoff rfl _ _ rfl rfl rfl ?hn9 hwz ?_; case hn9 => omega)
      intro g cap w6 hG6 hb6 hE6 hg6 hz6 hor6
      have HG6 := hide hG6
      have HS6 : Hid (SrcAt w6 b cv (m' + 9)) := (hb6.block b hbw).trans (unhide HS3)
      have HC6 := hide ((unhide HC3).later (hb6.mono (Nat.le_of_lt hbw)))
      have HGR6 := hide (grown_lowI (unhide HGR3) hb6)
      clear hG6 hb6 hE6 hg6 hz6 hor6 hG3 hlC hoff HS3 HC3 HGR3
      go_wp2_with fail
      go_roundw
      case rel => exact ⟨j - 1, _, _, _, m' + 9, by omega, by go_num, unhide HG6, unhide HSF4, unhide HCV4, by have := unhide HLE; simp; omega, unhide HS6, by omega, unhide HC6, unhide HGR6⟩
      case measure => simp [intOf]; omega
    · obtain rfl : j = 0 := by omega
      have HFC : Hid (centersFault cs = 0) := centersFault_of (by omega) hcv
      have L := hide (drawRightR b m' cv wr hS hC (by omega))
      have HG := hide hG
      have HSF := hide hsf
      have HGR := hide hgr
      have hcl : 1 ≤ cs.length ∧ cs.length ≤ 4 := by omega
      clear hG hsf hcv hS hC hgr hlen
      go_wp2_with fail
      refine (unhide L).mono ?_
      rintro e w3 ⟨vx, rowsx, xs, blsx, m3, rfl, hGx, hsx, hxl, hxr, s3, hm3, c3, g3⟩
      have hG3 := (unhide HG).grown g3 hbw (unhide HSF)
      have hgr3 := grown_trans (unhide HGR) g3
      have L2 := hide (specBuild7G _ cs _ xs w3 (hG3.toReads (by omega)) (hGx.toReads (by omega)) (unhide HFC) hxr)
      have hzw := unhide HWZ
      have bR3 : Box z.heap.size #[.slice none 0 0, .slice none 0 0] 27 w3 z.heap.size := ⟨Nat.le_refl _, (hgr3.block _ (by omega) (fun e => by have := Option.some.inj e; omega)).trans (unhide HBR).2⟩
      have HR3 := hide bR3
      have HS3 := hide s3
      have HC3 := hide c3
      have HGR3 := hide hgr3
      have hw3 : w.heap.size ≤ w3.heap.size := hgr3.size
      have HZW := hide hzw
      clear hG3 hGx hsx s3 c3 g3 hgr3 bR3 hzw L HG HSF HGR hxr
      go_wp2_with fail
      refine (unhide L2).mono ?_
      rintro e w4 ⟨rc, rl, rfl, hT, hb4⟩
      have bR4 := (unhide HR3).keep hb4
      obtain ⟨a8, c8, rfl⟩ : ∃ a c, rc = .slice a cs.length c := by
        obtain ⟨_, _, _, _, gC, -⟩ := hT
        rcases gC.form with ⟨rfl, rfl⟩ | ⟨g, cap, rfl, -⟩
        · exact ⟨none, 0, rfl⟩
        · exact ⟨_, cap, rfl⟩
      obtain ⟨a9, c9, rfl⟩ : ∃ a c, rl = .slice a (buildI cs xs).lists.length c := by
        obtain ⟨_, _, _, _, -, gL, -⟩ := hT
        rcases gL.form with ⟨rfl, e⟩ | ⟨g, cap, rfl, -⟩
        · rw [e]; exact ⟨none, 0, rfl⟩
        · exact ⟨_, cap, rfl⟩
      have z0 : w4.cell? ⟨z.heap.size, 0, none⟩ = some (.slice none 0 0) := bR4.at 0 _ rfl
      have z1 : w4.cell? ⟨z.heap.size, 1, none⟩ = some (.slice none 0 0) := bR4.at 1 _ rfl
      have f0 := bR4.soft 0
      have f1 := bR4.soft 1
      have l0 := bR4.lt
      have HT := hide hT
      have HB4 := hide hb4
      clear hT hb4 bR4 L2
      generalize hn9 : (buildI cs xs).lists.length = n9 at *
      clear hn9
      go_wp2_with fail
      refine bodyPost_ret (v := .agg #[.slice a8 cs.length c8, .slice a9 n9 c9]) (by simp [results, Tryz.results119, go_sem, z0, z1]) rfl ?_
      have hzw := unhide HZW
      have hE : Ext (fun c => c = z.heap.size) w4 ((w4.setCell ⟨z.heap.size, 0, none⟩ (.slice a8 cs.length c8)).setCell ⟨z.heap.size, 1, none⟩ (.slice a9 n9 c9)) := ((Ext.refl (fun c => c = z.heap.size) _).setCell ⟨z.heap.size, 0, none⟩ _ rfl).setCell ⟨z.heap.size, 1, none⟩ _ rfl
      have hEb : Ext (fun c => c = z.heap.size) w3 _ := (ext_of_below (unhide HB4) _).trans hE
      have hgz : z.grownBy ((w4.setCell ⟨z.heap.size, 0, none⟩ (.slice a8 cs.length c8)).setCell ⟨z.heap.size, 1, none⟩ (.slice a9 n9 c9)) (some b) := by
        have q1 := unhide HNZ
        have q2 := unhide HGR3
        refine ⟨hEb.os.trans (q2.os.trans q1.os), hEb.tape.trans (q2.tape.trans q1.tape), hEb.output.trans (q2.output.trans q1.output), by have := hEb.size; omega, fun i hi hn => ?_⟩
        rw [hEb.block i (by omega) (by omega), q2.block i (by omega) hn]
        exact q1.block i hi
      have hSz : SrcAt ((w4.setCell ⟨z.heap.size, 0, none⟩ (.slice a8 cs.length c8)).setCell ⟨z.heap.size, 1, none⟩ (.slice a9 n9 c9)) b cv m3 := (hEb.block b (by omega) (by omega)).trans (unhide HS3)
      have hCz : IsCode b ((w4.setCell ⟨z.heap.size, 0, none⟩ (.slice a8 cs.length c8)).setCell ⟨z.heap.size, 1, none⟩ (.slice a9 n9 c9)) cv := (unhide HC3).later (hEb.below (by omega) (fun k hk e => by omega))
      exact ⟨_, _, cs, xs, m3, rfl, ((unhide HT).ext hE (fun c h1 h2 => by omega)).lower (by omega), ⟨by omega, by omega, by omega⟩, hSz, by omega, hCz, hgz⟩

end Go.Proofs.YtggnnbdjihihiaaGreat

namespace Go.Proofs.YtggnnbdjihihiaaGreat
open Go.RowKit

theorem lies_in {α : Type} {A : Lay α} {w : World} {cs : List Value} {x : α} {lo : Nat} (h : ∃ bl, A.lies w cs x bl ∧ ∀ b ∈ bl, lo ≤ b) : A.LiesIn w cs x lo w.heap.size := by
  obtain ⟨bl, h1, h2⟩ := h
  exact ⟨bl, h1, fun b hb => ⟨h2 b hb, A.lt h1 b hb⟩⟩
/-- A list of an index, without its first. -/
theorem lists_tail {w : World} {base T gl capl : Nat} {rowsL : List (List Value)} {l0 : DIvfList} {lr : List DIvfList} {blsL : List (List Nat)} (gL : Grow Lay.tIvfList w base T (.slice (some ⟨gl, 0, none⟩) (lr.length + 1) capl) rowsL (l0 :: lr) blsL) (hn : lr.length ≤ 1000) (hc : lr.length + 1 ≤ capl) (s2 : ∀ b ∈ blsL.flatten, base ≤ b) : (Lay.sl Lay.tIvfList).LiesIn w [.slice (some ⟨gl, 1, none⟩) lr.length (capl - 1)] lr base w.heap.size := by
  refine lies_in ?_
  by_cases h0 : lr = []
  · subst h0
    exact ⟨[], ⟨some ⟨gl, 1, none⟩, capl - 1, rfl, ⟨by simp, by simp⟩, Or.inl ⟨rfl, rfl⟩⟩, by simp⟩
  · have hr := gL.nrows
    have hb := gL.nbls
    have hfl := gL.flat_len
    refine ⟨gl :: (blsL.drop 1).flatten, ⟨some ⟨gl, 1, none⟩, capl - 1, rfl, ⟨by omega, by omega⟩, Or.inr ⟨gl, 1, rowsL.drop 1, blsL.drop 1, rfl, (gL.own.lt gl rfl).2, rfl, by simp [hr], by simp [hb], fun j h1 h2 h3 => ⟨fun m hm => ?_, ?_⟩⟩⟩, fun b hm => ?_⟩
    · obtain rfl : m = 0 := by have : m < 1 := hm; omega
      have e : w.cell? ⟨gl, 1 + j * Lay.tIvfList.n + 0, none⟩ = w.cell? ⟨gl, (j + 1) * Lay.tIvfList.n + 0, none⟩ := by
        congr 2
        show 1 + j * 1 + 0 = (j + 1) * 1 + 0
        omega
      have h2' : j + 1 < rowsL.length := by simp at h2; omega
      rw [e, gL.own.cellAt ((j + 1) * Lay.tIvfList.n + 0) (by show (j + 1) * 1 + 0 < (lr.length + 1) * 1; omega), Lay.flat_at gL.row_len (j + 1) 0 h2' hm]
      simp
    · have h1' : j + 1 < (l0 :: lr).length := by simp; omega
      have := gL.lies (j + 1) h1' (by simp at h2; omega) (by simp at h3; omega)
      simpa [Nat.add_comm] using this
    · rcases List.mem_cons.1 hm with rfl | hm
      · exact (gL.own.lt _ rfl).1
      · obtain ⟨l, h1, h2⟩ := List.mem_flatten.1 hm
        exact s2 b (List.mem_flatten.2 ⟨l, List.mem_of_mem_drop h1, h2⟩)
/-- The first list of a row of lists is put anew. -/
theorem first_put2 {S : Nat → Prop} {wo w : World} {base T gl capl : Nat} {rowsL : List (List Value)} {l0 : DIvfList} {lr : List DIvfList} {blsL : List (List Nat)} (gL : Grow Lay.tIvfList wo base T (.slice (some ⟨gl, 0, none⟩) (lr.length + 1) capl) rowsL (l0 :: lr) blsL) (e : Ext S wo w) (hSg : ¬ S gl) (hSl : ∀ c ∈ (blsL.drop 1).flatten, ¬ S c) (hn : lr.length ≤ 1000) (hc : lr.length + 1 ≤ capl) {v' : Value} {ys : List DItem} {bl' : List Nat} (hl : (Lay.sl Lay.tItem).lies w [v'] ys bl') (hg : gl ∉ bl') (s2 : ∀ b ∈ blsL.flatten, base ≤ b) (hlo : ∀ b ∈ bl', base ≤ b) :
    (Lay.sl Lay.tIvfList).LiesIn (w.setCell ⟨gl, 0, none⟩ v') [.slice (some ⟨gl, 0, none⟩) (lr.length + 1) capl] (⟨ys⟩ :: lr) base (w.setCell ⟨gl, 0, none⟩ v').heap.size := by
  refine lies_in ?_
  have hr := gL.nrows
  have hb := gL.nbls
  have hown := own_ext gL.own e (fun c hc => by obtain rfl : gl = c := Option.some.inj hc; exact hSg)
  have hst := (hown.stored 0 v').1
  obtain ⟨r0, rr, rfl⟩ : ∃ r0 rr, rowsL = r0 :: rr := by
    cases rowsL with
    | nil => simp at hr
    | cons r0 rr => exact ⟨r0, rr, rfl⟩
  obtain ⟨b0, br, rfl⟩ : ∃ b0 br, blsL = b0 :: br := by
    cases blsL with
    | nil => simp at hb
    | cons b0 br => exact ⟨b0, br, rfl⟩
  have hkeep : ∀ b, b ≠ gl → (w.setCell ⟨gl, 0, none⟩ v').heap[b]? = w.heap[b]? := fun b hb => heap_setCell_other _ _ _ _ (by simpa using hb)
  have hr0 : r0.length = 1 := gL.row_len r0 (by simp)
  have hfl : ((r0 :: rr).flatten.set 0 v') = ([v'] :: rr).flatten := by
    obtain ⟨u, rfl⟩ : ∃ u, r0 = [u] := by
      match r0, hr0 with
      | [u], _ => exact ⟨u, rfl⟩
    simp
  rw [hfl] at hst
  have hrl : ∀ r ∈ ([v'] :: rr), r.length = Lay.tIvfList.n := fun r hm => by
    rcases List.mem_cons.1 hm with rfl | hm
    · rfl
    · exact gL.row_len r (by simp [hm])
  refine ⟨gl :: (bl' :: br).flatten, ⟨some ⟨gl, 0, none⟩, capl, by simp, ⟨by simpa using hc, by simp; omega⟩, Or.inr ⟨gl, 0, [v'] :: rr, bl' :: br, rfl, by simpa using (hown.lt gl rfl).2, rfl, by simpa using hr, by simpa using hb, fun j h1 h2 h3 => ⟨fun m hm => ?_, ?_⟩⟩⟩, fun b hm => ?_⟩
  · obtain rfl : m = 0 := by have : m < 1 := hm; omega
    rw [Nat.zero_add, hst.cellAt (j * Lay.tIvfList.n + 0) (by show j * 1 + 0 < (lr.length + 1) * 1; simp at h1; omega)]
    exact Lay.flat_at hrl j 0 h2 hm
  · match j with
    | 0 => exact Lay.keep (Lay.sl Lay.tItem) hl fun b hb => hkeep b (fun e => hg (e ▸ hb))
    | j + 1 =>
      have := gL.lies (j + 1) (by simpa using h1) (by simpa using h2) (by simpa using h3)
      simp only [List.getElem_cons_succ] at this ⊢
      have hlt := Lay.tIvfList.lt this
      refine Lay.tIvfList.keep this fun b hb => (hkeep b (fun e => gL.off b (List.mem_flatten.2 ⟨br[j]'(by simpa using h3), by simp, hb⟩) (by rw [e]; rfl))).trans (e.block b (hlt b hb) (hSl b (List.mem_flatten.2 ⟨br[j]'(by simpa using h3), by simp, hb⟩)))
  · rcases List.mem_cons.1 hm with rfl | hm
    · exact (gL.own.lt _ rfl).1
    · rw [List.flatten_cons] at hm
      rcases List.mem_append.1 hm with hm | hm
      · exact hlo b hm
      · exact s2 b (by rw [List.flatten_cons]; exact List.mem_append.2 (Or.inr hm))

end Go.Proofs.YtggnnbdjihihiaaGreat

namespace Go.Proofs.YtggnnbdjihihiaaGreat
open Go.RowKit

/-- An index with a first list that is a row of its own, apart from all else. -/
structure Fst (w : World) (base : Nat) (rc : Value) (cs : List DCenter) (gl capl : Nat) (l0 : DIvfList) (lr : List DIvfList) (rowsC : List (List Value)) (blsC : List (List Nat)) (rowsL : List (List Value)) (blsL : List (List Nat)) (v0 : Value) (rows0 : List (List Value)) (bls0 : List (List Nat)) : Prop where
  gC : Grow Lay.tCenter w base 145 rc rowsC cs blsC
  gL : Grow Lay.tIvfList w base 91 (.slice (some ⟨gl, 0, none⟩) (lr.length + 1) capl) rowsL (l0 :: lr) blsL
  g0 : Grow Lay.tItem w base 139 v0 rows0 l0.items bls0
  sC : ∀ b ∈ blsC.flatten, base ≤ b
  sL : ∀ b ∈ blsL.flatten, base ≤ b
  s0 : ∀ b ∈ bls0.flatten, base ≤ b
  x2 : ∀ c ∈ blsC.flatten, c ≠ gl
  x3 : rc.ownBlock ≠ some gl
  r0 : rowsL[0]? = some [v0]
  t1 : ∀ c, v0.ownBlock = some c → rc.ownBlock ≠ some c ∧ c ≠ gl ∧ c ∉ blsC.flatten ∧ c ∉ (blsL.drop 1).flatten
  t2 : ∀ c ∈ bls0.flatten, c ≠ gl
  cap : lr.length + 1 ≤ capl
theorem Two0.fst {w : World} {base n cp : Nat} {rc : Value} {a : Option Addr} {cs : List DCenter} {l0 : DIvfList} {lr : List DIvfList} (h : Two0 w base rc (.slice a n cp) cs (l0 :: lr)) :
    ∃ gl rowsC blsC rowsL blsL v0 rows0 bls0, a = some ⟨gl, 0, none⟩ ∧ n = lr.length + 1 ∧ Fst w base rc cs gl cp l0 lr rowsC blsC rowsL blsL v0 rows0 bls0 := by
  obtain ⟨rowsC, blsC, rowsL, blsL, gC, gL, sC, sL, x1, x2, x3, F⟩ := h
  obtain ⟨v0, rows0, bls0, e0, G0, sb, t1, t2⟩ := F (by simp)
  rcases gL.form with ⟨-, e⟩ | ⟨g, cap, e, -, -, hc⟩
  · cases e
  · injection e with e1 e2 e3
    subst e1 e2 e3
    exact ⟨g, rowsC, blsC, rowsL, blsL, v0, rows0, bls0, rfl, rfl, gC, gL, G0, sC, sL, sb, fun c hc e => x2 c hc (by rw [e]; rfl), fun e => x3 _ e rfl, e0, fun c hc => ⟨(t1 c hc).1, fun e => (t1 c hc).2.1 (by rw [e]; rfl), (t1 c hc).2.2⟩, fun c hc e => (t2 c hc).2 (by rw [e]; rfl), hc⟩
variable {w w' : World} {base gl capl : Nat} {rc : Value} {cs : List DCenter} {l0 : DIvfList} {lr : List DIvfList} {rowsC : List (List Value)} {blsC : List (List Nat)} {rowsL : List (List Value)} {blsL : List (List Nat)} {v0 : Value} {rows0 : List (List Value)} {bls0 : List (List Nat)}
theorem Fst.ext {S : Nat → Prop} (h : Fst w base rc cs gl capl l0 lr rowsC blsC rowsL blsL v0 rows0 bls0) (e : Ext S w w') (hs : ∀ c, base ≤ c → ¬ S c) : Fst w' base rc cs gl capl l0 lr rowsC blsC rowsL blsL v0 rows0 bls0 :=
  { h with gC := h.gC.ext e (fun c hc => hs c (h.gC.own.lt c hc).1) (fun c hc => hs c (h.sC c hc)), gL := h.gL.ext e (fun c hc => hs c (h.gL.own.lt c hc).1) (fun c hc => hs c (h.sL c hc)), g0 := h.g0.ext e (fun c hc => hs c (h.g0.own.lt c hc).1) (fun c hc => hs c (h.s0 c hc)) }
theorem Fst.later (h : Fst w base rc cs gl capl l0 lr rowsC blsC rowsL blsL v0 rows0 bls0) (hb : Below w.heap.size w w') : Fst w' base rc cs gl capl l0 lr rowsC blsC rowsL blsL v0 rows0 bls0 := h.ext (ext_of_below hb nowhere) fun _ _ h => h
theorem Fst.grown {b : Nat} (h : Fst w base rc cs gl capl l0 lr rowsC blsC rowsL blsL v0 rows0 bls0) (hg : w.grownBy w' (some b)) (hb : b < base) : Fst w' base rc cs gl capl l0 lr rowsC blsC rowsL blsL v0 rows0 bls0 :=
  h.ext (S := fun c => c = b) ⟨hg.os, hg.tape, hg.output, hg.size, fun k hk hn => hg.block k hk (fun e => hn (Option.some.inj e))⟩ fun c hc e => by omega
theorem Fst.cell (h : Fst w base rc cs gl capl l0 lr rowsC blsC rowsL blsL v0 rows0 bls0) : w.cell? ⟨gl, 0, none⟩ = some v0 := by
  have hr := h.gL.nrows
  have e := h.gL.own.cellAt 0 (by show 0 < (lr.length + 1) * 1; omega)
  rw [e]
  have h0 := h.r0
  cases rowsL with
  | nil => simp at h0
  | cons a rs =>
    simp only [List.getElem?_cons_zero, Option.some.injEq] at h0
    subst h0
    simp
theorem Fst.soft (h : Fst w base rc cs gl capl l0 lr rowsC blsC rowsL blsL v0 rows0 bls0) (o : Nat) : w.frozen? ⟨gl, o, none⟩ = false := h.gL.own.frozenAt o
theorem Fst.glt (h : Fst w base rc cs gl capl l0 lr rowsC blsC rowsL blsL v0 rows0 bls0) : base ≤ gl ∧ gl < w.heap.size := h.gL.own.lt gl rfl
/-- The first list has grown by one item, and its slice is put into the row of lists. -/
theorem Fst.put {w6 : World} (h : Fst w base rc cs gl capl l0 lr rowsC blsC rowsL blsL v0 rows0 bls0) (e6 : Ext (fun q => v0.ownBlock = some q) w w6) {g cap : Nat} {row : List Value} {x : DItem} {bl : List Nat}
    (G6 : Grow Lay.tItem w6 base 139 (.slice (some ⟨g, 0, none⟩) (l0.items.length + 1) cap) (rows0 ++ [row]) (l0.items ++ [x]) (bls0 ++ [bl])) (hor : v0.ownBlock = some g ∨ w.heap.size ≤ g) (hbl : ∀ c ∈ bl, base ≤ c ∧ c ≠ gl) (hn : lr.length ≤ 1000) (hn0 : l0.items.length ≤ 1000) (hnc : cs.length ≤ 1000) :
    Lay.tIvf.LiesIn (w6.setCell ⟨gl, 0, none⟩ (.slice (some ⟨g, 0, none⟩) (l0.items.length + 1) cap)) [rc, .slice (some ⟨gl, 0, none⟩) (lr.length + 1) capl] ⟨cs, ⟨l0.items ++ [x]⟩ :: lr⟩ base (w6.setCell ⟨gl, 0, none⟩ (.slice (some ⟨g, 0, none⟩) (l0.items.length + 1) cap)).heap.size := by
  have hgl := h.glt
  have hgg : g ≠ gl := fun e => by
    rcases hor with h1 | h1
    · exact (h.t1 g h1).2.1 e
    · omega
  obtain ⟨bl', hl6, hb6⟩ : ∃ bl', (Lay.sl Lay.tItem).lies w6 [.slice (some ⟨g, 0, none⟩) (l0.items.length + 1) cap] (l0.items ++ [x]) bl' ∧ ∀ c ∈ bl', c = g ∨ c ∈ (bls0 ++ [bl]).flatten := by
    rcases G6.reads (by simp; omega) with hr | ⟨e, -⟩
    · refine ⟨_, hr, fun c hc => ?_⟩
      simp only [List.append_eq_nil_iff, List.cons_ne_nil, and_false, if_false] at hc
      exact List.mem_cons.1 hc
    · simp at e
  have hall : ∀ c ∈ (bls0 ++ [bl]).flatten, base ≤ c ∧ c ≠ gl := fun c hc => by
    rw [List.flatten_append] at hc
    rcases List.mem_append.1 hc with hc | hc
    · exact ⟨h.s0 c hc, h.t2 c hc⟩
    · exact hbl c (by simpa using hc)
  have hgb : base ≤ g := (G6.own.lt g rfl).1
  obtain ⟨bL, hL, hLb⟩ := first_put2 h.gL e6 (fun e => (h.t1 gl e).2.1 rfl) (fun c hc e => (h.t1 c e).2.2.2 hc) hn h.cap hl6 (fun hm => by
    rcases hb6 gl hm with e | e
    · exact hgg e.symm
    · exact (hall gl e).2 rfl) h.sL (fun c hc => by
    rcases hb6 c hc with e | e
    · omega
    · exact (hall c e).1)
  have gC6 := h.gC.ext e6 (fun c hc e => (h.t1 c e).1 hc) (fun c hc e => (h.t1 c e).2.2.1 hc)
  have gC7 := gC6.ext ((Ext.refl (fun c => c = gl) w6).setCell ⟨gl, 0, none⟩ (.slice (some ⟨g, 0, none⟩) (l0.items.length + 1) cap) rfl) (fun c hc e => h.x3 (by rw [← e]; exact hc)) (fun c hc e => h.x2 c hc e)
  obtain ⟨bC, hC, hCb⟩ := gC7.toLies (by omega) h.sC
  have hC' := hC
  obtain ⟨ac, dc, eC, -⟩ := hC'
  obtain rfl : rc = .slice ac cs.length dc := by simpa using eC
  refine ⟨bC ++ bL, lies_Ivf.2 ⟨ac, dc, bC, some ⟨gl, 0, none⟩, capl, bL, rfl, rfl, hC, hL⟩, fun c hc => ?_⟩
  rcases List.mem_append.1 hc with hc | hc
  · exact hCb c hc
  · exact hLb c hc

end Go.Proofs.YtggnnbdjihihiaaGreat
