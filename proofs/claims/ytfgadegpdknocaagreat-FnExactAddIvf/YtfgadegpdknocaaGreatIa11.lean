/-
  Texts of this proof in one: SpecBuild7, IvfRes, SpecAt4, SpecAddIvf, IvfFew, LawAddIvf, LayOpen, OpenCenter, OpenItem, OpenIvfList, OpenIvf.
  Their conditions stand in their theorems.
-/
import Derived.Test.YtfgadegpdknocaaGreatChecked
import Derived.Test.YtfgadegpdknocaaGreatIa05
import Derived.Test.YtfgadegpdknocaaGreatIa09
import Derived.Test.YtfgadegpdknocaaGreatIa10
import Derived.Deep.CutRange
import Derived.Test.YtfgadegpdknocaaGreatIa01
import Derived.Test.YtfgadegpdknocaaGreatIa04
import Derived.ProofKit
import Derived.OpenShut
import Derived.Deep.Slices

namespace Go.Proofs.YtfgadegpdknocaaGreat
open Go.RowKit

theorem ints_wf6 {w : World} {v : Value} {zs : List Int} (h : IsInts w v zs) : ∀ z ∈ zs, (Lit.int .i64 z).wf = true := by
  obtain ⟨_, _, _, hw, -⟩ := h
  exact hw
theorem below_up {B : Nat} {a b c : World} (hB : B ≤ a.heap.size) (h : Below B a b) (k : Below b.heap.size b c) : Below B a c := h.trans (k.mono (Nat.le_trans hB h.size))

set_option maxRecDepth 100000 in
set_option maxHeartbeats 8000000 in
theorem specBuild7 (vc : Value) (cs : List DCenter) (vx : Value) (xs : List DItem) (w : World) (hcs : (Lay.sl Lay.tCenter).Reads w [vc] cs) (h : (Lay.sl Lay.tItem).Reads w [vx] xs) (hfc : centersFault cs = 0) (hft : tableFault xs = 0) :
    Calls Tryz.prog 41 #[vc, vx] w fun e w' => ∃ cs', e = .returned (.agg cs'.toArray) ∧ Lay.tIvf.LiesIn w' cs' (buildI cs xs) (w.heap.size + 1) w'.heap.size ∧ Below w.heap.size w w' := by
  obtain ⟨ao, dc, rfl⟩ := open_sl hcs
  obtain ⟨ax, dx, rfl⟩ := open_sl h
  obtain ⟨⟨hn1, hn6⟩, hcv⟩ := centersFault_zero hfc
  obtain ⟨hlen, hall, -⟩ := tableFault_zero hft
  obtain ⟨bc, oc, rfl, hbc⟩ := Lay.sl_addr hcs hn1
  have HXV : Hid (∀ x ∈ xs, vecFault x.vec = 0) := fun x hm => (hall x hm).2
  have HCV := hide hcv
  have HFC := hide hfc
  have HB0 : Below w.heap.size w ((w.alloc (.cells #[.slice none 0 0, .slice none 0 0] 31)).alloc (.cells #[.slice none 0 0, .slice none 0 0] 31)) := ((Below.refl _ _).alloc (Nat.le_refl _) _).alloc (by simp) _
  have bR : Box w.heap.size #[.slice none 0 0, .slice none 0 0] 31 ((w.alloc (.cells #[.slice none 0 0, .slice none 0 0] 31)).alloc (.cells #[.slice none 0 0, .slice none 0 0] 31)) w.heap.size := (newBox (Nat.le_refl _)).grow _
  have bX : Box w.heap.size #[.slice none 0 0, .slice none 0 0] 31 ((w.alloc (.cells #[.slice none 0 0, .slice none 0 0] 31)).alloc (.cells #[.slice none 0 0, .slice none 0 0] 31)) (w.heap.size + 1) := newBoxAt (by omega) (by simp)
  have hW0 : w.heap.size + 1 ≤ ((w.alloc (.cells #[.slice none 0 0, .slice none 0 0] 31)).alloc (.cells #[.slice none 0 0, .slice none 0 0] 31)).heap.size := by simp
  have hW2 : w.heap.size + 2 ≤ ((w.alloc (.cells #[.slice none 0 0, .slice none 0 0] 31)).alloc (.cells #[.slice none 0 0, .slice none 0 0] 31)).heap.size := by simp
  have hcl := (hcs.liesIn).later HB0
  have hxl := (h.liesIn).later HB0
  have hc0 := hcs.later HB0
  have hx0 := h
  clear hcs h hall hfc hft hcv
  go_enter Tryz.func41, Tryz.ntmps41
  go_wp2_with fail
  generalize (w.alloc (.cells #[.slice none 0 0, .slice none 0 0] 31)).alloc (.cells #[.slice none 0 0, .slice none 0 0] 31) = W0 at *
  have KC : Hid (∀ W, Below (w.heap.size + 1) W0 W → (Lay.sl Lay.tCenter).Reads W [.slice (some ⟨bc, oc, none⟩) cs.length dc] cs ∧ (Lay.sl Lay.tItem).Reads W [.slice ax xs.length dx] xs) := fun W hW => ⟨(hcl.below hW (by omega)).reads, (hxl.below hW (by omega)).reads⟩
  have KX : Hid (∀ W, Below (w.heap.size + 1) W0 W → ∀ j (hj : j < xs.length), ∃ b off a d bl, ax = some ⟨b, off, none⟩ ∧ b < w.heap.size ∧ W.cell? ⟨b, off + j * 2, none⟩ = some (.int .i64 (xs[j]).id) ∧ W.cell? ⟨b, off + j * 2 + 1, none⟩ = some (.slice a (xs[j]).vec.length d) ∧ Lay.tItem.lies W [.int .i64 (xs[j]).id, .slice a (xs[j]).vec.length d] xs[j] bl ∧ ∀ q ∈ bl, q < w.heap.size) := by
    intro W hW j hj
    obtain ⟨b, off, e, hb⟩ := Lay.sl_addr hx0 (by omega)
    subst e
    obtain ⟨row, hc, bl, hl⟩ := Lay.row_at hx0 hj
    obtain ⟨a, d, b9, e9, -⟩ := lies_Item.1 hl
    subst e9
    have hlt := Lay.tItem.lt hl
    have hl2 := Lay.tItem.keep (Lay.tItem.keep hl (fun q hq => HB0.block q (hlt q hq))) (fun q hq => hW.block q (by have := hlt q hq; omega))
    exact ⟨b, off, a, d, bl, rfl, hb, (hW.cell (p := ⟨b, off + j * 2, none⟩) (by show b < w.heap.size + 1; omega)).trans ((HB0.cell (p := ⟨b, off + j * 2, none⟩) hb).trans (hc 0 (by decide))), (hW.cell (p := ⟨b, off + j * 2 + 1, none⟩) (by show b < w.heap.size + 1; omega)).trans ((HB0.cell (p := ⟨b, off + j * 2 + 1, none⟩) hb).trans (hc 1 (by decide))), hl2, hlt⟩
  have HC0 := hide hc0
  have HR := hide bR
  have HXB := hide bX
  have HBW := hide HB0
  clear hcl hxl hc0 hx0 bR bX HB0
  go_loopw [6] (fun i wr => ∃ (k : Nat) (rc rl : Value), k ≤ cs.length ∧ i = .int .i64 k ∧ Box w.heap.size #[rc, rl] 31 wr (w.heap.size + 1) ∧ Two wr (w.heap.size + 2) rc rl (cs.take k) ((buildI cs xs).lists.take k) ∧ Below (w.heap.size + 1) W0 wr) (fun i _ => cs.length - (intOf i).toNat)
  case atStart => exact ⟨0, _, _, Nat.zero_le _, rfl, unhide HXB, two_nil _ _, Below.refl _ _⟩
  case round =>
    obtain ⟨k, rc, rl, hk, rfl, hX, hT, hB⟩ := hrel
    clear HXB
    by_cases hlt : k < cs.length
    · obtain ⟨row, hc, hr⟩ := Lay.row_at (unhide HC0) hlt
      obtain ⟨a1, d1, rfl, R1⟩ := open_Center hr
      have c1 : W0.cell? ⟨bc, oc + k, none⟩ = some (.slice a1 (cs[k]).vec.length d1) := cen_cell (hc 0 (by decide))
      have hvy := unhide HCV cs[k] (List.getElem_mem hlt)
      have HTK : Hid (cs.take (k + 1) = cs.take k ++ [⟨(cs[k]).vec⟩]) := List.take_succ_eq_append_getElem hlt
      have HLC : Hid ((cs.take k).length = k) := by show (cs.take k).length = k; simp; omega
      have HTL := hide (buildI_take cs xs k hlt)
      have HLL : Hid (((buildI cs xs).lists.take k).length = k) := by show ((buildI cs xs).lists.take k).length = k; rw [List.length_take, buildI_len]; omega
      clear hc hr
      generalize hyk : cs[k] = c at *
      generalize cs.take k = ck at *
      generalize (buildI cs xs).lists.take k = lk at *
      have hv3 := (vecFault_zero hvy).1
      have LN : Hid (∀ W, Below (w.heap.size + 1) W0 W → Calls Tryz.prog 85 #[.slice a1 c.vec.length d1] W fun e w' => ∃ a d bl, e = .returned (.slice a c.vec.length d) ∧ Lay.tCenter.lies w' [.slice a c.vec.length d] ⟨c.vec⟩ bl ∧ (∀ q ∈ bl, W.heap.size ≤ q) ∧ Below W.heap.size W w') := fun W hW => by
        obtain ⟨row, hc, hr⟩ := Lay.row_at (unhide KC W hW).1 hlt
        obtain ⟨a1', d1', e1, R⟩ := open_Center hr
        have c9 := cen_cell (hc 0 (by decide))
        rw [e1] at c9
        rw [hyk] at c9 R
        have c8 := (hW.cell (p := ⟨bc, oc + k, none⟩) (by show bc < w.heap.size + 1; omega)).trans c1
        have e8 := c8.symm.trans c9
        simp only [List.getElem?_cons_zero, Option.some.injEq, Value.slice.injEq, true_and] at e8
        obtain ⟨rfl, rfl⟩ := e8
        refine (l1Ints _ c.vec W (Lay.ints_reads R) (by omega)).mono ?_
        rintro e w' ⟨v', rfl, ho, hb⟩
        obtain ⟨bl, ⟨hl, -, -⟩, hi⟩ := Lay.ownInts (ints_wf6 (Lay.ints_reads R)) (by omega) ho
        obtain ⟨a, d, rfl⟩ := open_sl ⟨bl, hl⟩
        exact ⟨a, d, bl, rfl, hl, fun q hq => (hi q hq).1, hb⟩
      obtain ⟨rowsC, blsC, rowsL, blsL, gC, gL, s1, s2, x1, x2, x3⟩ := hT
      have hXD : Box w.heap.size #[rc, rl] 31 wr.drew (w.heap.size + 1) := hX.drew
      have gCD := gC.later (Below.refl wr.heap.size wr).drew
      have gLD := gL.later (Below.refl wr.heap.size wr).drew
      have gCD_lo : w.heap.size + 2 ≤ wr.drew.heap.size := Nat.le_trans hW2 hB.size
      have hHD : Below (w.heap.size + 1) W0 wr.drew := hB.drew
      have i1 : (0 : Int) ≤ (k : Int) := by omega
      have i2 : (k : Int) < (cs.length : Int) := by omega
      clear hX hB gC gL R1 hvy hv3 hyk
      go_upto_region 5 with fail
      go_cut [5] from 16 to 27 (fun s5 wx => s5 = .pointer (some ⟨w.heap.size + 1, 0, none⟩) ∧ ∃ rc', Two wx (w.heap.size + 2) rc' rl (cs.take (k + 1)) lk ∧ Box w.heap.size #[rc', rl] 31 wx (w.heap.size + 1) ∧ Below (w.heap.size + 1) W0 wx)
      case first =>
        refine wp_region_noPanic ?_
        refine wp_region_held_drew (S := fun w' => Below (w.heap.size + 1) W0 w') (by kernel_rfl) hHD (fun hHeld => ?_)
        generalize wr.drew = wD at hHeld hXD gCD gLD hHD gCD_lo ⊢
        refine wpAnyH_take (i := 0) (oi := { dst := some 16, op := Go.Op.fieldAddr 31 (Go.Operand.tmp 5) 0, type := 0, pos := "l07_ivf.go:61", after := #[], guard := none }) (v := ?va0_1) rfl (by kernel_rfl) (by kernel_rfl) (by kernel_rfl) (fun _ _ _ h => h) (Or.inl ⟨by rfl, ?ha0_1⟩) hHeld ?ra0_1
        case ha0_1 =>
          intro wS hSw
          (try dsimp only at hSw)
          go_simp
          try with_reducible rfl
        case ra0_1 =>
        simp only [Act.put, List.setIfInBounds_toArray, List.set_cons_zero, List.set_cons_succ]
        refine wpAnyH_take (i := 2) (oi := { dst := some 18, op := Go.Op.move (Go.Operand.tmp 0), type := 28, pos := "l07_ivf.go:61", after := #[], guard := none }) (v := ?va2_2) rfl (by kernel_rfl) (by kernel_rfl) (by kernel_rfl) (fun _ _ _ h => h) (Or.inl ⟨by rfl, ?ha2_2⟩) hHeld ?ra2_2
        case ha2_2 =>
          intro wS hSw
          (try dsimp only at hSw)
          go_simp
          try with_reducible rfl
        case ra2_2 =>
        simp only [Act.put, List.setIfInBounds_toArray, List.set_cons_zero, List.set_cons_succ]
        refine wpAnyH_take (i := 3) (oi := { dst := some 19, op := Go.Op.move (Go.Operand.tmp 6), type := 3, pos := "l07_ivf.go:61", after := #[], guard := none }) (v := ?va3_3) rfl (by kernel_rfl) (by kernel_rfl) (by kernel_rfl) (fun _ _ _ h => h) (Or.inl ⟨by rfl, ?ha3_3⟩) hHeld ?ra3_3
        case ha3_3 =>
          intro wS hSw
          (try dsimp only at hSw)
          go_simp
          try with_reducible rfl
        case ra3_3 =>
        simp only [Act.put, List.setIfInBounds_toArray, List.set_cons_zero, List.set_cons_succ]
        refine wpAnyH_take (i := 4) (oi := { dst := some 20, op := Go.Op.indexAddr 28 (Go.Operand.tmp 18) (Go.Operand.tmp 19), type := 0, pos := "l07_ivf.go:61", after := #[{ on := 2, ground := Go.Ground.data }, { on := 3, ground := Go.Ground.data }], guard := none }) (v := ?va4_4) rfl (by kernel_rfl) (by kernel_rfl) (by kernel_rfl) (fun _ _ _ h => h) (Or.inl ⟨by rfl, ?ha4_4⟩) hHeld ?ra4_4
        case ha4_4 =>
          intro wS hSw
          (try dsimp only at hSw)
          go_simp
          try with_reducible rfl
        case ra4_4 =>
        simp only [Act.put, List.setIfInBounds_toArray, List.set_cons_zero, List.set_cons_succ]
        refine wpAnyH_take (i := 5) (oi := { dst := some 21, op := Go.Op.fieldAddr 134 (Go.Operand.tmp 20) 0, type := 0, pos := "l07_ivf.go:61", after := #[{ on := 4, ground := Go.Ground.data }], guard := none }) (v := ?va5_5) rfl (by kernel_rfl) (by kernel_rfl) (by kernel_rfl) (fun _ _ _ h => h) (Or.inl ⟨by rfl, ?ha5_5⟩) hHeld ?ra5_5
        case ha5_5 =>
          intro wS hSw
          (try dsimp only at hSw)
          go_simp
          try with_reducible rfl
        case ra5_5 =>
        simp only [Act.put, List.setIfInBounds_toArray, List.set_cons_zero, List.set_cons_succ]
        refine wpAnyH_take (i := 6) (oi := { dst := some 22, op := Go.Op.load 26 (Go.Operand.tmp 21), type := 26, pos := "l07_ivf.go:61", after := #[{ on := 5, ground := Go.Ground.data }], guard := none }) (v := ?va6_6) rfl (by kernel_rfl) (by kernel_rfl) (by kernel_rfl) (fun _ _ _ h => h) (Or.inl ⟨by rfl, ?ha6_6⟩) hHeld ?ra6_6
        case ha6_6 =>
          intro wS hSw
          have y1 := (hSw.cell (p := ⟨bc, oc + k, none⟩) (by show bc < w.heap.size + 1; omega)).trans c1
          clear hSw
          (try dsimp only at hSw)
          go_simp
          try with_reducible rfl
        case ra6_6 =>
        simp only [Act.put, List.setIfInBounds_toArray, List.set_cons_zero, List.set_cons_succ]
        refine wpAnyH_ready (rs := [1, 7]) (by kernel_rfl) (by simp) ?_
        refine AllReadyH.cons (o := { dst := some 17, op := Go.Op.load 28 (Go.Operand.tmp 16), type := 28, pos := "l07_ivf.go:61", after := #[{ on := 0, ground := Go.Ground.data }], guard := none }) rfl (fun K hK => ?oa1_7) (AllReadyH.cons (o := { dst := some 23, op := Go.Op.call { callee := Go.Callee.value (Go.Operand.func 85), args := #[Go.Operand.tmp 22], argTypes := #[26] }, type := 26, pos := "l07_ivf.go:61", after := #[{ on := 6, ground := Go.Ground.data }], guard := none }) rfl (fun K hK => ?oa7_7) (AllReadyH.nil))
        case oa1_7 =>
          have y1 : (wD).cell? ⟨w.heap.size + 1, 0, none⟩ = some rc := hXD.at 0 _ rfl
          go_simp
          refine hK.out _ _ hHeld (fun hHeld => ?_)
          clear hK K
          try simp only [Act.put, List.setIfInBounds_toArray, List.set_cons_zero, List.set_cons_succ]
          refine wpAnyH_ready (rs := [7]) (by kernel_rfl) (by simp) ?_
          refine AllReadyH.cons (o := { dst := some 23, op := Go.Op.call { callee := Go.Callee.value (Go.Operand.func 85), args := #[Go.Operand.tmp 22], argTypes := #[26] }, type := 26, pos := "l07_ivf.go:61", after := #[{ on := 6, ground := Go.Ground.data }], guard := none }) rfl (fun K hK => ?_) AllReadyH.nil
          go_simp
          go_at_call 85
          refine (unhide LN _ hHeld).mono ?_
          rintro e w3 ⟨a9, d9, bl9, rfl, hl9, hi9, hbw⟩
          try go_wp2_with fail
          refine hK.out _ _ (below_up hW0 hHeld hbw) (fun hHeld => ?_)
          clear hK K
          try simp only [Act.put, List.setIfInBounds_toArray, List.set_cons_zero, List.set_cons_succ]
          refine wpAnyH_take (i := 8) (oi := { dst := some 24, op := Go.Op.build 134 #[(0, Go.Operand.tmp 23)], type := 134, pos := "l07_ivf.go:61", after := #[{ on := 7, ground := Go.Ground.data }], guard := none }) (v := ?va8_8) rfl (by kernel_rfl) (by kernel_rfl) (by kernel_rfl) (fun _ _ _ h => h) (Or.inl ⟨by rfl, ?ha8_8⟩) hHeld ?ra8_8
          case ha8_8 =>
            intro wS hSw
            (try dsimp only at hSw)
            go_simp
            try with_reducible rfl
          case ra8_8 =>
          simp only [Act.put, List.setIfInBounds_toArray, List.set_cons_zero, List.set_cons_succ]
          refine wpAnyH_ready (rs := [9]) (by kernel_rfl) (by simp) ?_
          refine AllReadyH.cons (o := { dst := some 25, op := Go.Op.buildSlice 28 1 #[(0, Go.Operand.tmp 24)], type := 28, pos := "l07_ivf.go:61", after := #[{ on := 8, ground := Go.Ground.data }], guard := none }) rfl (fun K hK => ?_) AllReadyH.nil
          go_simp
          refine hK.out _ _ (hHeld.alloc (Nat.le_trans hW0 hHeld.size) _) (fun hHeld => ?_)
          clear hK K
          try simp only [Act.put, List.setIfInBounds_toArray, List.set_cons_zero, List.set_cons_succ]
          refine wpAnyH_ready (rs := [10]) (by kernel_rfl) (by simp) ?_
          refine AllReadyH.cons (o := { dst := some 26, op := Go.Op.call { callee := Go.Callee.builtin Go.Builtin.append, args := #[Go.Operand.tmp 17, Go.Operand.tmp 25], argTypes := #[28, 28] }, type := 28, pos := "l07_ivf.go:61", after := #[{ on := 1, ground := Go.Ground.data }, { on := 9, ground := Go.Ground.data }, { on := 7, ground := Go.Ground.chain }], guard := none }) rfl (fun K hK => ?_) AllReadyH.nil
          have hG3 := gCD.later hbw
          have hz3 := hbw.size
          refine step_append_Center hG3 (row := [.slice a9 c.vec.length d9]) (x := ⟨c.vec⟩) (bl := bl9) hl9 (fun q hq e => by have h1 := (gCD.own.lt q e).2; have h2 := hi9 q hq; omega) rfl _ _ rfl rfl rfl (by have := unhide HLC; omega) (by have := gCD_lo; omega) ?_
          rintro g5 cp5 w5 hG5 hb5 hE5 hl5 hz5 hor5
          have hX5 : Box w.heap.size #[rc, rl] 31 w5 (w.heap.size + 1) := (hXD.keep hbw).ext hE5 (fun e => by have := (hG3.own.lt _ e).1; omega)
          refine hK.out _ _ ((below_up hW0 hHD hbw).trans (hb5.mono (by omega))) (fun hHeld => ?_)
          clear hK K
          try simp only [Act.put, List.setIfInBounds_toArray, List.set_cons_zero, List.set_cons_succ]
          refine wpAnyH_take (i := 11) (oi := { dst := some 27, op := Go.Op.fieldAddr 31 (Go.Operand.tmp 5) 0, type := 0, pos := "l07_ivf.go:61", after := #[{ on := 0, ground := Go.Ground.phase }, { on := 1, ground := Go.Ground.phase }, { on := 2, ground := Go.Ground.phase }, { on := 3, ground := Go.Ground.phase }, { on := 4, ground := Go.Ground.phase }, { on := 5, ground := Go.Ground.phase }, { on := 6, ground := Go.Ground.phase }, { on := 7, ground := Go.Ground.phase }, { on := 8, ground := Go.Ground.phase }, { on := 9, ground := Go.Ground.phase }, { on := 10, ground := Go.Ground.phase }], guard := none }) (v := ?va11_9) rfl (by kernel_rfl) (by kernel_rfl) (by kernel_rfl) (fun _ _ _ h => h) (Or.inl ⟨by rfl, ?ha11_9⟩) hHeld ?ra11_9
          case ha11_9 =>
            intro wS hSw
            (try dsimp only at hSw)
            go_simp
            try with_reducible rfl
          case ra11_9 =>
          simp only [Act.put, List.setIfInBounds_toArray, List.set_cons_zero, List.set_cons_succ]
          refine wpAnyH_ready (rs := [12]) (by kernel_rfl) (by simp) ?_
          refine AllReadyH.cons (o := { dst := none, op := Go.Op.store 28 (Go.Operand.tmp 27) (Go.Operand.tmp 26), type := 0, pos := "l07_ivf.go:61", after := #[{ on := 11, ground := Go.Ground.data }, { on := 10, ground := Go.Ground.data }, { on := 10, ground := Go.Ground.chain }, { on := 0, ground := Go.Ground.phase }, { on := 1, ground := Go.Ground.phase }, { on := 2, ground := Go.Ground.phase }, { on := 3, ground := Go.Ground.phase }, { on := 4, ground := Go.Ground.phase }, { on := 5, ground := Go.Ground.phase }, { on := 6, ground := Go.Ground.phase }, { on := 7, ground := Go.Ground.phase }, { on := 8, ground := Go.Ground.phase }, { on := 9, ground := Go.Ground.phase }, { on := 10, ground := Go.Ground.phase }], guard := none }) rfl (fun K hK => ?_) AllReadyH.nil
          have y1 := hX5.at 0 _ rfl
          have f1 := hX5.soft 0
          have l5 := hX5.lt
          go_simp
          refine hK.out _ _ (hHeld.setCell (by simp) _) (fun hHeld => ?_)
          clear hK K
          try simp only [Act.put, List.setIfInBounds_toArray, List.set_cons_zero, List.set_cons_succ]
          refine wpAnyH_done (by kernel_rfl) ?_ _
          refine NoPanic.normal ?_
          have HX9 : Hid (Box w.heap.size #[.slice (some ⟨g5, 0, none⟩) (ck.length + 1) cp5, rl] 31 (w5.setCell ⟨w.heap.size + 1, 0, none⟩ (.slice (some ⟨g5, 0, none⟩) (ck.length + 1) cp5)) (w.heap.size + 1)) := hX5.set 0 _
          have HT9 : Hid (Two (w5.setCell ⟨w.heap.size + 1, 0, none⟩ (.slice (some ⟨g5, 0, none⟩) (ck.length + 1) cp5)) (w.heap.size + 2) (.slice (some ⟨g5, 0, none⟩) (ck.length + 1) cp5) rl (ck ++ [⟨c.vec⟩]) lk) := (Two.cens (gLD.later hbw) s1 s2 x1 x2 x3 hG5 hE5 hor5 (fun q hq => by have := hi9 q hq; have := gCD_lo; omega) (fun q hq e => by have h1 := (gLD.own.lt q e).2; have h2 := hi9 q hq; omega)).ext (S := fun q => q = w.heap.size + 1) ((Ext.refl _ _).setCell ⟨w.heap.size + 1, 0, none⟩ _ rfl) (fun q h1 h2 => by omega)
          have HB9 := hide hHeld
          clear hHeld hG5 hb5 hE5 hX5 hG3 hbw gCD gLD hXD hHD
          go_wp2_with fail
          go_meet
          exact ⟨rfl, _, by rw [unhide HTK]; exact unhide HT9, unhide HX9, unhide HB9⟩
        case oa7_7 =>
          go_simp
          go_at_call 85
          refine (unhide LN _ hHeld).mono ?_
          rintro e w3 ⟨a9, d9, bl9, rfl, hl9, hi9, hbw⟩
          try go_wp2_with fail
          refine hK.out _ _ (below_up hW0 hHeld hbw) (fun hHeld => ?_)
          clear hK K
          try simp only [Act.put, List.setIfInBounds_toArray, List.set_cons_zero, List.set_cons_succ]
          refine wpAnyH_take (i := 8) (oi := { dst := some 24, op := Go.Op.build 134 #[(0, Go.Operand.tmp 23)], type := 134, pos := "l07_ivf.go:61", after := #[{ on := 7, ground := Go.Ground.data }], guard := none }) (v := ?va8_10) rfl (by kernel_rfl) (by kernel_rfl) (by kernel_rfl) (fun _ _ _ h => h) (Or.inl ⟨by rfl, ?ha8_10⟩) hHeld ?ra8_10
          case ha8_10 =>
            intro wS hSw
            (try dsimp only at hSw)
            go_simp
            try with_reducible rfl
          case ra8_10 =>
          simp only [Act.put, List.setIfInBounds_toArray, List.set_cons_zero, List.set_cons_succ]
          refine wpAnyH_ready (rs := [1, 9]) (by kernel_rfl) (by simp) ?_
          refine AllReadyH.cons (o := { dst := some 17, op := Go.Op.load 28 (Go.Operand.tmp 16), type := 28, pos := "l07_ivf.go:61", after := #[{ on := 0, ground := Go.Ground.data }], guard := none }) rfl (fun K hK => ?oa1_11) (AllReadyH.cons (o := { dst := some 25, op := Go.Op.buildSlice 28 1 #[(0, Go.Operand.tmp 24)], type := 28, pos := "l07_ivf.go:61", after := #[{ on := 8, ground := Go.Ground.data }], guard := none }) rfl (fun K hK => ?oa9_11) (AllReadyH.nil))
          case oa1_11 =>
            have y1 : (w3).cell? ⟨w.heap.size + 1, 0, none⟩ = some rc := (hXD.keep hbw).at 0 _ rfl
            go_simp
            refine hK.out _ _ hHeld (fun hHeld => ?_)
            clear hK K
            try simp only [Act.put, List.setIfInBounds_toArray, List.set_cons_zero, List.set_cons_succ]
            refine wpAnyH_ready (rs := [9]) (by kernel_rfl) (by simp) ?_
            refine AllReadyH.cons (o := { dst := some 25, op := Go.Op.buildSlice 28 1 #[(0, Go.Operand.tmp 24)], type := 28, pos := "l07_ivf.go:61", after := #[{ on := 8, ground := Go.Ground.data }], guard := none }) rfl (fun K hK => ?_) AllReadyH.nil
            go_simp
            refine hK.out _ _ (hHeld.alloc (Nat.le_trans hW0 hHeld.size) _) (fun hHeld => ?_)
            clear hK K
            try simp only [Act.put, List.setIfInBounds_toArray, List.set_cons_zero, List.set_cons_succ]
            refine wpAnyH_ready (rs := [10]) (by kernel_rfl) (by simp) ?_
            refine AllReadyH.cons (o := { dst := some 26, op := Go.Op.call { callee := Go.Callee.builtin Go.Builtin.append, args := #[Go.Operand.tmp 17, Go.Operand.tmp 25], argTypes := #[28, 28] }, type := 28, pos := "l07_ivf.go:61", after := #[{ on := 1, ground := Go.Ground.data }, { on := 9, ground := Go.Ground.data }, { on := 7, ground := Go.Ground.chain }], guard := none }) rfl (fun K hK => ?_) AllReadyH.nil
            have hG3 := gCD.later hbw
            have hz3 := hbw.size
            refine step_append_Center hG3 (row := [.slice a9 c.vec.length d9]) (x := ⟨c.vec⟩) (bl := bl9) hl9 (fun q hq e => by have h1 := (gCD.own.lt q e).2; have h2 := hi9 q hq; omega) rfl _ _ rfl rfl rfl (by have := unhide HLC; omega) (by have := gCD_lo; omega) ?_
            rintro g5 cp5 w5 hG5 hb5 hE5 hl5 hz5 hor5
            have hX5 : Box w.heap.size #[rc, rl] 31 w5 (w.heap.size + 1) := (hXD.keep hbw).ext hE5 (fun e => by have := (hG3.own.lt _ e).1; omega)
            refine hK.out _ _ ((below_up hW0 hHD hbw).trans (hb5.mono (by omega))) (fun hHeld => ?_)
            clear hK K
            try simp only [Act.put, List.setIfInBounds_toArray, List.set_cons_zero, List.set_cons_succ]
            refine wpAnyH_take (i := 11) (oi := { dst := some 27, op := Go.Op.fieldAddr 31 (Go.Operand.tmp 5) 0, type := 0, pos := "l07_ivf.go:61", after := #[{ on := 0, ground := Go.Ground.phase }, { on := 1, ground := Go.Ground.phase }, { on := 2, ground := Go.Ground.phase }, { on := 3, ground := Go.Ground.phase }, { on := 4, ground := Go.Ground.phase }, { on := 5, ground := Go.Ground.phase }, { on := 6, ground := Go.Ground.phase }, { on := 7, ground := Go.Ground.phase }, { on := 8, ground := Go.Ground.phase }, { on := 9, ground := Go.Ground.phase }, { on := 10, ground := Go.Ground.phase }], guard := none }) (v := ?va11_12) rfl (by kernel_rfl) (by kernel_rfl) (by kernel_rfl) (fun _ _ _ h => h) (Or.inl ⟨by rfl, ?ha11_12⟩) hHeld ?ra11_12
            case ha11_12 =>
              intro wS hSw
              (try dsimp only at hSw)
              go_simp
              try with_reducible rfl
            case ra11_12 =>
            simp only [Act.put, List.setIfInBounds_toArray, List.set_cons_zero, List.set_cons_succ]
            refine wpAnyH_ready (rs := [12]) (by kernel_rfl) (by simp) ?_
            refine AllReadyH.cons (o := { dst := none, op := Go.Op.store 28 (Go.Operand.tmp 27) (Go.Operand.tmp 26), type := 0, pos := "l07_ivf.go:61", after := #[{ on := 11, ground := Go.Ground.data }, { on := 10, ground := Go.Ground.data }, { on := 10, ground := Go.Ground.chain }, { on := 0, ground := Go.Ground.phase }, { on := 1, ground := Go.Ground.phase }, { on := 2, ground := Go.Ground.phase }, { on := 3, ground := Go.Ground.phase }, { on := 4, ground := Go.Ground.phase }, { on := 5, ground := Go.Ground.phase }, { on := 6, ground := Go.Ground.phase }, { on := 7, ground := Go.Ground.phase }, { on := 8, ground := Go.Ground.phase }, { on := 9, ground := Go.Ground.phase }, { on := 10, ground := Go.Ground.phase }], guard := none }) rfl (fun K hK => ?_) AllReadyH.nil
            have y1 := hX5.at 0 _ rfl
            have f1 := hX5.soft 0
            have l5 := hX5.lt
            go_simp
            refine hK.out _ _ (hHeld.setCell (by simp) _) (fun hHeld => ?_)
            clear hK K
            try simp only [Act.put, List.setIfInBounds_toArray, List.set_cons_zero, List.set_cons_succ]
            refine wpAnyH_done (by kernel_rfl) ?_ _
            refine NoPanic.normal ?_
            have HX9 : Hid (Box w.heap.size #[.slice (some ⟨g5, 0, none⟩) (ck.length + 1) cp5, rl] 31 (w5.setCell ⟨w.heap.size + 1, 0, none⟩ (.slice (some ⟨g5, 0, none⟩) (ck.length + 1) cp5)) (w.heap.size + 1)) := hX5.set 0 _
            have HT9 : Hid (Two (w5.setCell ⟨w.heap.size + 1, 0, none⟩ (.slice (some ⟨g5, 0, none⟩) (ck.length + 1) cp5)) (w.heap.size + 2) (.slice (some ⟨g5, 0, none⟩) (ck.length + 1) cp5) rl (ck ++ [⟨c.vec⟩]) lk) := (Two.cens (gLD.later hbw) s1 s2 x1 x2 x3 hG5 hE5 hor5 (fun q hq => by have := hi9 q hq; have := gCD_lo; omega) (fun q hq e => by have h1 := (gLD.own.lt q e).2; have h2 := hi9 q hq; omega)).ext (S := fun q => q = w.heap.size + 1) ((Ext.refl _ _).setCell ⟨w.heap.size + 1, 0, none⟩ _ rfl) (fun q h1 h2 => by omega)
            have HB9 := hide hHeld
            clear hHeld hG5 hb5 hE5 hX5 hG3 hbw gCD gLD hXD hHD
            go_wp2_with fail
            go_meet
            exact ⟨rfl, _, by rw [unhide HTK]; exact unhide HT9, unhide HX9, unhide HB9⟩
          case oa9_11 =>
            go_simp
            refine hK.out _ _ (hHeld.alloc (Nat.le_trans hW0 hHeld.size) _) (fun hHeld => ?_)
            clear hK K
            try simp only [Act.put, List.setIfInBounds_toArray, List.set_cons_zero, List.set_cons_succ]
            refine wpAnyH_ready (rs := [1]) (by kernel_rfl) (by simp) ?_
            refine AllReadyH.cons (o := { dst := some 17, op := Go.Op.load 28 (Go.Operand.tmp 16), type := 28, pos := "l07_ivf.go:61", after := #[{ on := 0, ground := Go.Ground.data }], guard := none }) rfl (fun K hK => ?_) AllReadyH.nil
            have y1 : (w3.alloc (.cells #[.slice a9 c.vec.length d9] 134)).cell? ⟨w.heap.size + 1, 0, none⟩ = some rc := ((hXD.keep hbw).grow _).at 0 _ rfl
            go_simp
            refine hK.out _ _ hHeld (fun hHeld => ?_)
            clear hK K
            try simp only [Act.put, List.setIfInBounds_toArray, List.set_cons_zero, List.set_cons_succ]
            refine wpAnyH_ready (rs := [10]) (by kernel_rfl) (by simp) ?_
            refine AllReadyH.cons (o := { dst := some 26, op := Go.Op.call { callee := Go.Callee.builtin Go.Builtin.append, args := #[Go.Operand.tmp 17, Go.Operand.tmp 25], argTypes := #[28, 28] }, type := 28, pos := "l07_ivf.go:61", after := #[{ on := 1, ground := Go.Ground.data }, { on := 9, ground := Go.Ground.data }, { on := 7, ground := Go.Ground.chain }], guard := none }) rfl (fun K hK => ?_) AllReadyH.nil
            have hG3 := gCD.later hbw
            have hz3 := hbw.size
            refine step_append_Center hG3 (row := [.slice a9 c.vec.length d9]) (x := ⟨c.vec⟩) (bl := bl9) hl9 (fun q hq e => by have h1 := (gCD.own.lt q e).2; have h2 := hi9 q hq; omega) rfl _ _ rfl rfl rfl (by have := unhide HLC; omega) (by have := gCD_lo; omega) ?_
            rintro g5 cp5 w5 hG5 hb5 hE5 hl5 hz5 hor5
            have hX5 : Box w.heap.size #[rc, rl] 31 w5 (w.heap.size + 1) := (hXD.keep hbw).ext hE5 (fun e => by have := (hG3.own.lt _ e).1; omega)
            refine hK.out _ _ ((below_up hW0 hHD hbw).trans (hb5.mono (by omega))) (fun hHeld => ?_)
            clear hK K
            try simp only [Act.put, List.setIfInBounds_toArray, List.set_cons_zero, List.set_cons_succ]
            refine wpAnyH_take (i := 11) (oi := { dst := some 27, op := Go.Op.fieldAddr 31 (Go.Operand.tmp 5) 0, type := 0, pos := "l07_ivf.go:61", after := #[{ on := 0, ground := Go.Ground.phase }, { on := 1, ground := Go.Ground.phase }, { on := 2, ground := Go.Ground.phase }, { on := 3, ground := Go.Ground.phase }, { on := 4, ground := Go.Ground.phase }, { on := 5, ground := Go.Ground.phase }, { on := 6, ground := Go.Ground.phase }, { on := 7, ground := Go.Ground.phase }, { on := 8, ground := Go.Ground.phase }, { on := 9, ground := Go.Ground.phase }, { on := 10, ground := Go.Ground.phase }], guard := none }) (v := ?va11_13) rfl (by kernel_rfl) (by kernel_rfl) (by kernel_rfl) (fun _ _ _ h => h) (Or.inl ⟨by rfl, ?ha11_13⟩) hHeld ?ra11_13
            case ha11_13 =>
              intro wS hSw
              (try dsimp only at hSw)
              go_simp
              try with_reducible rfl
            case ra11_13 =>
            simp only [Act.put, List.setIfInBounds_toArray, List.set_cons_zero, List.set_cons_succ]
            refine wpAnyH_ready (rs := [12]) (by kernel_rfl) (by simp) ?_
            refine AllReadyH.cons (o := { dst := none, op := Go.Op.store 28 (Go.Operand.tmp 27) (Go.Operand.tmp 26), type := 0, pos := "l07_ivf.go:61", after := #[{ on := 11, ground := Go.Ground.data }, { on := 10, ground := Go.Ground.data }, { on := 10, ground := Go.Ground.chain }, { on := 0, ground := Go.Ground.phase }, { on := 1, ground := Go.Ground.phase }, { on := 2, ground := Go.Ground.phase }, { on := 3, ground := Go.Ground.phase }, { on := 4, ground := Go.Ground.phase }, { on := 5, ground := Go.Ground.phase }, { on := 6, ground := Go.Ground.phase }, { on := 7, ground := Go.Ground.phase }, { on := 8, ground := Go.Ground.phase }, { on := 9, ground := Go.Ground.phase }, { on := 10, ground := Go.Ground.phase }], guard := none }) rfl (fun K hK => ?_) AllReadyH.nil
            have y1 := hX5.at 0 _ rfl
            have f1 := hX5.soft 0
            have l5 := hX5.lt
            go_simp
            refine hK.out _ _ (hHeld.setCell (by simp) _) (fun hHeld => ?_)
            clear hK K
            try simp only [Act.put, List.setIfInBounds_toArray, List.set_cons_zero, List.set_cons_succ]
            refine wpAnyH_done (by kernel_rfl) ?_ _
            refine NoPanic.normal ?_
            have HX9 : Hid (Box w.heap.size #[.slice (some ⟨g5, 0, none⟩) (ck.length + 1) cp5, rl] 31 (w5.setCell ⟨w.heap.size + 1, 0, none⟩ (.slice (some ⟨g5, 0, none⟩) (ck.length + 1) cp5)) (w.heap.size + 1)) := hX5.set 0 _
            have HT9 : Hid (Two (w5.setCell ⟨w.heap.size + 1, 0, none⟩ (.slice (some ⟨g5, 0, none⟩) (ck.length + 1) cp5)) (w.heap.size + 2) (.slice (some ⟨g5, 0, none⟩) (ck.length + 1) cp5) rl (ck ++ [⟨c.vec⟩]) lk) := (Two.cens (gLD.later hbw) s1 s2 x1 x2 x3 hG5 hE5 hor5 (fun q hq => by have := hi9 q hq; have := gCD_lo; omega) (fun q hq e => by have h1 := (gLD.own.lt q e).2; have h2 := hi9 q hq; omega)).ext (S := fun q => q = w.heap.size + 1) ((Ext.refl _ _).setCell ⟨w.heap.size + 1, 0, none⟩ _ rfl) (fun q h1 h2 => by omega)
            have HB9 := hide hHeld
            clear hHeld hG5 hb5 hE5 hX5 hG3 hbw gCD gLD hXD hHD
            go_wp2_with fail
            go_meet
            exact ⟨rfl, _, by rw [unhide HTK]; exact unhide HT9, unhide HX9, unhide HB9⟩
      case rest =>
        obtain ⟨rfl, rc', hT, hX, hB⟩ := hcut
        clear hXD gCD gLD hHD gCD_lo s1 s2 x1 x2 x3 LN HTK HLC c1
        have hBlo : w.heap.size + 2 ≤ wc.heap.size := Nat.le_trans hW2 hB.size
        have nbm : Below wc.heap.size wc (wc.alloc (.cells #[] 133)) := (Below.refl _ _).alloc (Nat.le_refl _) _
        have HG0 : Hid (Grow Lay.tItem (wc.alloc (.cells #[] 133)) wc.heap.size 133 (.slice (some ⟨wc.heap.size, 0, none⟩) 0 0) [] [] []) := Grow.nil (World.ownsRow_lit wc #[] 0 (Nat.le_refl _) (Nat.zero_le _) rfl)
        have HX := hide hX
        have HT := hide hT
        have HB := hide hB
        have HNB := hide nbm
        clear hX hT hB nbm
        rename World => wo
        go_wp2_with fail
        go_loopw [7, 8] (fun u i wr => ∃ (j : Nat) (rows : List (List Value)) (bls : List (List Nat)), j ≤ xs.length ∧ i = .int .i64 j ∧ Grow Lay.tItem wr wo.heap.size 133 u rows (mineI cs (xs.take j) k) bls ∧ (∀ q ∈ bls.flatten, q < w.heap.size) ∧ Below wo.heap.size wo wr) (fun _ i _ => xs.length - (intOf i).toNat)
        case atStart => exact ⟨0, [], [], Nat.zero_le _, rfl, unhide HG0, by simp, unhide HNB⟩
        case round =>
          obtain ⟨j, rows, bls, hj, rfl, hG, hq, hBr⟩ := hrel
          clear HG0 HNB
          have hBW := below_up hW0 (unhide HB) hBr
          by_cases hlj : j < xs.length
          · obtain ⟨b6, o6, a7, d7, bl7, rfl, hb6, c3, c4, hl7, hi7⟩ := unhide KX wr hBW j hlj
            have hvx := unhide HXV xs[j] (List.getElem_mem hlj)
            have HMS := hide (mineI_step cs xs k j hlj)
            have LN := hide (specNear _ cs _ (xs[j]).vec wr (unhide KC wr hBW).1 (Lay.ints_reads (by
              obtain ⟨_, _, e, R⟩ := open_Item ⟨bl7, hl7⟩
              simp only [List.cons.injEq, Value.slice.injEq, and_true, true_and] at e
              obtain ⟨rfl, rfl⟩ := e
              exact R)) (unhide HFC) hvx)
            clear hvx
            generalize xs[j] = y at *
            have hml : (mineI cs (xs.take j) k).length ≤ 30 := by have := mineI_len cs (xs.take j) k; simp at this; omega
            have HBR := hide hBr
            have HQ := hide hq
            have HG := hide hG
            have HL7 := hide hl7
            have HI7 := hide hi7
            clear hBr hq hG hl7 hi7 hBW
            generalize hnr : near cs y.vec = nr at *
            go_wp2_with fail
            refine (unhide LN).mono ?_
            rintro e w3 ⟨rfl, hb3⟩
            replace HBR := hide ((unhide HBR).trans (hb3.mono (unhide HBR).size))
            replace HG := hide ((unhide HG).later hb3)
            by_cases he : nr = k
            · have hd : (((nr : Nat) : Int) == ((k : Nat) : Int)) = true := by rw [he]; simp
              have HMS2 : Hid (mineI cs (xs.take (j + 1)) k = mineI cs (xs.take j) k ++ [y]) := (unhide HMS).trans (if_pos (by simpa using he))
              have hG3 := unhide HG
              have hl3 := Lay.tItem.keep (unhide HL7) (fun q hq => hb3.block q (Lay.tItem.lt (unhide HL7) q hq))
              have hoff : ∀ q ∈ bl7, u7.ownBlock ≠ some q := fun q hq e => by have h1 := (hG3.own.lt q e).1; have h2 := unhide HI7 q hq; omega
              have hz3 : wo.heap.size ≤ w3.heap.size := (unhide HBR).size
              have c3' := cell_keep hb3 c3
              have c4' := cell_keep hb3 c4
              have HIQ : Hid (∀ q ∈ (bls ++ [bl7]).flatten, q < w.heap.size) := flat_add (unhide HQ) (unhide HI7)
              clear c3 c4 LN HMS hb3 HG HL7 he hnr
              go_wp2_with (at_builtin; refine wpList_append_Item hG3 hl3 hoff rfl _ _ rfl rfl rfl ?hn9 hz3 ?_; case hn9 => omega)
              rintro g5 cp5 w5 hG5 hb5 - hl5 hz5 -
              have HG5 := hide hG5
              have HB5 := hide ((unhide HBR).trans hb5)
              clear hG5 hb5 hG3 hl3 hoff c3' c4' HBR
              go_wp2_with fail
              go_roundw
              case rel => exact ⟨j + 1, _, _, by omega, by go_num, by rw [unhide HMS2]; exact unhide HG5, unhide HIQ, unhide HB5⟩
              case measure => simp [intOf]; omega
            · have hd : (((nr : Nat) : Int) == ((k : Nat) : Int)) = false := by rw [beq_eq_false_iff_ne]; omega
              have HMS2 : Hid (mineI cs (xs.take (j + 1)) k = mineI cs (xs.take j) k) := (unhide HMS).trans (if_neg (by simpa using he))
              clear c3 c4 LN HMS hb3 HL7 he hnr
              go_wp2_with fail
              go_roundw
              case rel => exact ⟨j + 1, _, _, by omega, by go_num, by rw [unhide HMS2]; exact unhide HG, unhide HQ, unhide HBR⟩
              case measure => simp [intOf]; omega
          · obtain rfl : j = xs.length := by omega
            rw [List.take_length] at hG
            have hml : (mineI cs xs k).length ≤ 30 := by have := mineI_len cs xs k; omega
            obtain ⟨am, dm, rfl⟩ := open_sl (hG.toReads (by omega))
            have hMv : ∀ y ∈ mineI cs xs k, y.vec.length ≤ 100000000 := fun y hy => by
              have := (vecFault_zero (unhide HXV y (List.mem_filter.1 hy).1)).1
              omega
            have LC : Hid (∀ W, Below (w.heap.size + 1) W0 W → (Lay.sl Lay.tItem).Reads W [.slice am (mineI cs xs k).length dm] (mineI cs xs k) → Calls Tryz.prog 87 #[.slice am (mineI cs xs k).length dm] W fun e w' => ∃ a d bl, e = .returned (.slice a (mineI cs xs k).length d) ∧ Lay.tIvfList.lies w' [.slice a (mineI cs xs k).length d] ⟨mineI cs xs k⟩ bl ∧ (∀ q ∈ bl, W.heap.size ≤ q) ∧ Below W.heap.size W w') := fun W _ hR => by
              refine (specCopy _ (mineI cs xs k) W hR (by omega) hMv).mono ?_
              rintro e w' ⟨v', rfl, ⟨bl, hl, hi⟩, hb⟩
              obtain ⟨a, d, rfl⟩ := open_sl ⟨bl, hl⟩
              exact ⟨a, d, bl, rfl, hl, fun q hq => (hi q hq).1, hb⟩
            obtain ⟨rowsC, blsC, rowsL, blsL, gC, gL, s1, s2, x1, x2, x3⟩ := (unhide HT).later hBr
            have hXD : Box w.heap.size #[rc', rl] 31 wr.drew (w.heap.size + 1) := ((unhide HX).keep hBr).drew
            have gCD := gC.later (Below.refl wr.heap.size wr).drew
            have gLD := gL.later (Below.refl wr.heap.size wr).drew
            have gCD_lo : w.heap.size + 2 ≤ wr.drew.heap.size := Nat.le_trans hBlo hBr.size
            have hHD : Below (w.heap.size + 1) W0 wr.drew := (below_up hW0 (unhide HB) hBr).drew
            have hHM := (hG.toReads (by omega)).later (Below.refl wr.heap.size wr).drew
            rename_i _
            obtain ⟨rc, rfl⟩ : ∃ q, q = rc' := ⟨rc', rfl⟩
            clear hG hBr gC gL hq hMv HX HT
            go_upto_region 12 with fail
            refine wp_region_noPanic ?_
            refine wp_region_held_drew (S := fun w' => Below (w.heap.size + 1) W0 w') (by kernel_rfl) hHD (fun hHeld => ?_)
            generalize wr.drew = wD at hHeld hXD gCD gLD hHD hHM gCD_lo ⊢
            refine wpAnyH_take (i := 0) (oi := { dst := some 51, op := Go.Op.fieldAddr 31 (Go.Operand.tmp 5) 1, type := 0, pos := "l07_ivf.go:68", after := #[], guard := none }) (v := ?vb0_1) rfl (by kernel_rfl) (by kernel_rfl) (by kernel_rfl) (fun _ _ _ h => h) (Or.inl ⟨by rfl, ?hb0_1⟩) hHeld ?rb0_1
            case hb0_1 =>
              intro wS hSw
              (try dsimp only at hSw)
              go_simp
              try with_reducible rfl
            case rb0_1 =>
            simp only [Act.put, List.setIfInBounds_toArray, List.set_cons_zero, List.set_cons_succ]
            refine wpAnyH_take (i := 2) (oi := { dst := some 53, op := Go.Op.move (Go.Operand.tmp 7), type := 57, pos := "l07_ivf.go:68", after := #[], guard := none }) (v := ?vb2_2) rfl (by kernel_rfl) (by kernel_rfl) (by kernel_rfl) (fun _ _ _ h => h) (Or.inl ⟨by rfl, ?hb2_2⟩) hHeld ?rb2_2
            case hb2_2 =>
              intro wS hSw
              (try dsimp only at hSw)
              go_simp
              try with_reducible rfl
            case rb2_2 =>
            simp only [Act.put, List.setIfInBounds_toArray, List.set_cons_zero, List.set_cons_succ]
            refine wpAnyH_ready (rs := [1, 3]) (by kernel_rfl) (by simp) ?_
            refine AllReadyH.cons (o := { dst := some 52, op := Go.Op.load 29 (Go.Operand.tmp 51), type := 29, pos := "l07_ivf.go:68", after := #[{ on := 0, ground := Go.Ground.data }], guard := none }) rfl (fun K hK => ?ob1_3) (AllReadyH.cons (o := { dst := some 54, op := Go.Op.call { callee := Go.Callee.value (Go.Operand.func 87), args := #[Go.Operand.tmp 53], argTypes := #[57] }, type := 57, pos := "l07_ivf.go:68", after := #[{ on := 2, ground := Go.Ground.data }], guard := none }) rfl (fun K hK => ?ob3_3) (AllReadyH.nil))
            case ob1_3 =>
              have y1 : (wD).cell? ⟨w.heap.size + 1, 1, none⟩ = some rl := hXD.at 1 _ rfl
              go_simp
              refine hK.out _ _ hHeld (fun hHeld => ?_)
              clear hK K
              try simp only [Act.put, List.setIfInBounds_toArray, List.set_cons_zero, List.set_cons_succ]
              refine wpAnyH_ready (rs := [3]) (by kernel_rfl) (by simp) ?_
              refine AllReadyH.cons (o := { dst := some 54, op := Go.Op.call { callee := Go.Callee.value (Go.Operand.func 87), args := #[Go.Operand.tmp 53], argTypes := #[57] }, type := 57, pos := "l07_ivf.go:68", after := #[{ on := 2, ground := Go.Ground.data }], guard := none }) rfl (fun K hK => ?_) AllReadyH.nil
              go_simp
              go_at_call 87
              refine (unhide LC _ hHeld hHM).mono ?_
              rintro e w3 ⟨a9, d9, bl9, rfl, hl9, hi9, hbw⟩
              try go_wp2_with fail
              refine hK.out _ _ (below_up hW0 hHeld hbw) (fun hHeld => ?_)
              clear hK K
              try simp only [Act.put, List.setIfInBounds_toArray, List.set_cons_zero, List.set_cons_succ]
              refine wpAnyH_take (i := 4) (oi := { dst := some 55, op := Go.Op.build 104 #[(0, Go.Operand.tmp 54)], type := 104, pos := "l07_ivf.go:68", after := #[{ on := 3, ground := Go.Ground.data }], guard := none }) (v := ?vb4_4) rfl (by kernel_rfl) (by kernel_rfl) (by kernel_rfl) (fun _ _ _ h => h) (Or.inl ⟨by rfl, ?hb4_4⟩) hHeld ?rb4_4
              case hb4_4 =>
                intro wS hSw
                (try dsimp only at hSw)
                go_simp
                try with_reducible rfl
              case rb4_4 =>
              simp only [Act.put, List.setIfInBounds_toArray, List.set_cons_zero, List.set_cons_succ]
              refine wpAnyH_ready (rs := [5]) (by kernel_rfl) (by simp) ?_
              refine AllReadyH.cons (o := { dst := some 56, op := Go.Op.buildSlice 29 1 #[(0, Go.Operand.tmp 55)], type := 29, pos := "l07_ivf.go:68", after := #[{ on := 4, ground := Go.Ground.data }], guard := none }) rfl (fun K hK => ?_) AllReadyH.nil
              go_simp
              refine hK.out _ _ (hHeld.alloc (Nat.le_trans hW0 hHeld.size) _) (fun hHeld => ?_)
              clear hK K
              try simp only [Act.put, List.setIfInBounds_toArray, List.set_cons_zero, List.set_cons_succ]
              refine wpAnyH_ready (rs := [6]) (by kernel_rfl) (by simp) ?_
              refine AllReadyH.cons (o := { dst := some 57, op := Go.Op.call { callee := Go.Callee.builtin Go.Builtin.append, args := #[Go.Operand.tmp 52, Go.Operand.tmp 56], argTypes := #[29, 29] }, type := 29, pos := "l07_ivf.go:68", after := #[{ on := 1, ground := Go.Ground.data }, { on := 5, ground := Go.Ground.data }, { on := 3, ground := Go.Ground.chain }], guard := none }) rfl (fun K hK => ?_) AllReadyH.nil
              have hG3 := gLD.later hbw
              have hz3 := hbw.size
              refine step_append_IvfList hG3 (row := [.slice a9 (mineI cs xs k).length d9]) (x := ⟨mineI cs xs k⟩) (bl := bl9) hl9 (fun q hq e => by have h1 := (gLD.own.lt q e).2; have h2 := hi9 q hq; omega) rfl _ _ rfl rfl rfl (by have := unhide HLL; omega) (by have := gCD_lo; omega) ?_
              rintro g5 cp5 w5 hG5 hb5 hE5 hl5 hz5 hor5
              have hX5 : Box w.heap.size #[rc, rl] 31 w5 (w.heap.size + 1) := (hXD.keep hbw).ext hE5 (fun e => by have := (hG3.own.lt _ e).1; omega)
              refine hK.out _ _ ((below_up hW0 hHD hbw).trans (hb5.mono (by omega))) (fun hHeld => ?_)
              clear hK K
              try simp only [Act.put, List.setIfInBounds_toArray, List.set_cons_zero, List.set_cons_succ]
              refine wpAnyH_take (i := 7) (oi := { dst := some 58, op := Go.Op.fieldAddr 31 (Go.Operand.tmp 5) 1, type := 0, pos := "l07_ivf.go:68", after := #[{ on := 0, ground := Go.Ground.phase }, { on := 1, ground := Go.Ground.phase }, { on := 2, ground := Go.Ground.phase }, { on := 3, ground := Go.Ground.phase }, { on := 4, ground := Go.Ground.phase }, { on := 5, ground := Go.Ground.phase }, { on := 6, ground := Go.Ground.phase }], guard := none }) (v := ?vb7_5) rfl (by kernel_rfl) (by kernel_rfl) (by kernel_rfl) (fun _ _ _ h => h) (Or.inl ⟨by rfl, ?hb7_5⟩) hHeld ?rb7_5
              case hb7_5 =>
                intro wS hSw
                (try dsimp only at hSw)
                go_simp
                try with_reducible rfl
              case rb7_5 =>
              simp only [Act.put, List.setIfInBounds_toArray, List.set_cons_zero, List.set_cons_succ]
              refine wpAnyH_ready (rs := [8]) (by kernel_rfl) (by simp) ?_
              refine AllReadyH.cons (o := { dst := none, op := Go.Op.store 29 (Go.Operand.tmp 58) (Go.Operand.tmp 57), type := 0, pos := "l07_ivf.go:68", after := #[{ on := 7, ground := Go.Ground.data }, { on := 6, ground := Go.Ground.data }, { on := 6, ground := Go.Ground.chain }, { on := 0, ground := Go.Ground.phase }, { on := 1, ground := Go.Ground.phase }, { on := 2, ground := Go.Ground.phase }, { on := 3, ground := Go.Ground.phase }, { on := 4, ground := Go.Ground.phase }, { on := 5, ground := Go.Ground.phase }, { on := 6, ground := Go.Ground.phase }], guard := none }) rfl (fun K hK => ?_) AllReadyH.nil
              have y1 := hX5.at 1 _ rfl
              have f1 := hX5.soft 1
              have l5 := hX5.lt
              go_simp
              refine hK.out _ _ (hHeld.setCell (by simp) _) (fun hHeld => ?_)
              clear hK K
              try simp only [Act.put, List.setIfInBounds_toArray, List.set_cons_zero, List.set_cons_succ]
              refine wpAnyH_done (by kernel_rfl) ?_ _
              refine NoPanic.normal ?_
              have HX9 : Hid (Box w.heap.size #[rc, .slice (some ⟨g5, 0, none⟩) (lk.length + 1) cp5] 31 (w5.setCell ⟨w.heap.size + 1, 1, none⟩ (.slice (some ⟨g5, 0, none⟩) (lk.length + 1) cp5)) (w.heap.size + 1)) := hX5.set 1 _
              have HT9 : Hid (Two (w5.setCell ⟨w.heap.size + 1, 1, none⟩ (.slice (some ⟨g5, 0, none⟩) (lk.length + 1) cp5)) (w.heap.size + 2) rc (.slice (some ⟨g5, 0, none⟩) (lk.length + 1) cp5) (cs.take (k + 1)) (lk ++ [⟨mineI cs xs k⟩])) := (Two.listsA (gCD.later hbw) s1 s2 x1 x2 x3 hG5 hE5 hor5 (fun q hq => by have := hi9 q hq; have := gCD_lo; omega) (fun q hq e => by have h1 := (gCD.own.lt q e).2; have h2 := hi9 q hq; omega)).ext (S := fun q => q = w.heap.size + 1) ((Ext.refl _ _).setCell ⟨w.heap.size + 1, 1, none⟩ _ rfl) (fun q h1 h2 => by omega)
              have HB9 := hide hHeld
              clear hHeld hG5 hb5 hE5 hX5 hG3 hbw gCD gLD hXD hHD hHM
              go_wp2_with fail
              go_roundw
              case rel => exact ⟨k + 1, _, _, by omega, by go_num, unhide HX9, by rw [unhide HTL]; exact unhide HT9, unhide HB9⟩
              case measure => simp [intOf]; omega
            case ob3_3 =>
              go_simp
              go_at_call 87
              refine (unhide LC _ hHeld hHM).mono ?_
              rintro e w3 ⟨a9, d9, bl9, rfl, hl9, hi9, hbw⟩
              try go_wp2_with fail
              refine hK.out _ _ (below_up hW0 hHeld hbw) (fun hHeld => ?_)
              clear hK K
              try simp only [Act.put, List.setIfInBounds_toArray, List.set_cons_zero, List.set_cons_succ]
              refine wpAnyH_take (i := 4) (oi := { dst := some 55, op := Go.Op.build 104 #[(0, Go.Operand.tmp 54)], type := 104, pos := "l07_ivf.go:68", after := #[{ on := 3, ground := Go.Ground.data }], guard := none }) (v := ?vb4_6) rfl (by kernel_rfl) (by kernel_rfl) (by kernel_rfl) (fun _ _ _ h => h) (Or.inl ⟨by rfl, ?hb4_6⟩) hHeld ?rb4_6
              case hb4_6 =>
                intro wS hSw
                (try dsimp only at hSw)
                go_simp
                try with_reducible rfl
              case rb4_6 =>
              simp only [Act.put, List.setIfInBounds_toArray, List.set_cons_zero, List.set_cons_succ]
              refine wpAnyH_ready (rs := [1, 5]) (by kernel_rfl) (by simp) ?_
              refine AllReadyH.cons (o := { dst := some 52, op := Go.Op.load 29 (Go.Operand.tmp 51), type := 29, pos := "l07_ivf.go:68", after := #[{ on := 0, ground := Go.Ground.data }], guard := none }) rfl (fun K hK => ?ob1_7) (AllReadyH.cons (o := { dst := some 56, op := Go.Op.buildSlice 29 1 #[(0, Go.Operand.tmp 55)], type := 29, pos := "l07_ivf.go:68", after := #[{ on := 4, ground := Go.Ground.data }], guard := none }) rfl (fun K hK => ?ob5_7) (AllReadyH.nil))
              case ob1_7 =>
                have y1 : (w3).cell? ⟨w.heap.size + 1, 1, none⟩ = some rl := (hXD.keep hbw).at 1 _ rfl
                go_simp
                refine hK.out _ _ hHeld (fun hHeld => ?_)
                clear hK K
                try simp only [Act.put, List.setIfInBounds_toArray, List.set_cons_zero, List.set_cons_succ]
                refine wpAnyH_ready (rs := [5]) (by kernel_rfl) (by simp) ?_
                refine AllReadyH.cons (o := { dst := some 56, op := Go.Op.buildSlice 29 1 #[(0, Go.Operand.tmp 55)], type := 29, pos := "l07_ivf.go:68", after := #[{ on := 4, ground := Go.Ground.data }], guard := none }) rfl (fun K hK => ?_) AllReadyH.nil
                go_simp
                refine hK.out _ _ (hHeld.alloc (Nat.le_trans hW0 hHeld.size) _) (fun hHeld => ?_)
                clear hK K
                try simp only [Act.put, List.setIfInBounds_toArray, List.set_cons_zero, List.set_cons_succ]
                refine wpAnyH_ready (rs := [6]) (by kernel_rfl) (by simp) ?_
                refine AllReadyH.cons (o := { dst := some 57, op := Go.Op.call { callee := Go.Callee.builtin Go.Builtin.append, args := #[Go.Operand.tmp 52, Go.Operand.tmp 56], argTypes := #[29, 29] }, type := 29, pos := "l07_ivf.go:68", after := #[{ on := 1, ground := Go.Ground.data }, { on := 5, ground := Go.Ground.data }, { on := 3, ground := Go.Ground.chain }], guard := none }) rfl (fun K hK => ?_) AllReadyH.nil
                have hG3 := gLD.later hbw
                have hz3 := hbw.size
                refine step_append_IvfList hG3 (row := [.slice a9 (mineI cs xs k).length d9]) (x := ⟨mineI cs xs k⟩) (bl := bl9) hl9 (fun q hq e => by have h1 := (gLD.own.lt q e).2; have h2 := hi9 q hq; omega) rfl _ _ rfl rfl rfl (by have := unhide HLL; omega) (by have := gCD_lo; omega) ?_
                rintro g5 cp5 w5 hG5 hb5 hE5 hl5 hz5 hor5
                have hX5 : Box w.heap.size #[rc, rl] 31 w5 (w.heap.size + 1) := (hXD.keep hbw).ext hE5 (fun e => by have := (hG3.own.lt _ e).1; omega)
                refine hK.out _ _ ((below_up hW0 hHD hbw).trans (hb5.mono (by omega))) (fun hHeld => ?_)
                clear hK K
                try simp only [Act.put, List.setIfInBounds_toArray, List.set_cons_zero, List.set_cons_succ]
                refine wpAnyH_take (i := 7) (oi := { dst := some 58, op := Go.Op.fieldAddr 31 (Go.Operand.tmp 5) 1, type := 0, pos := "l07_ivf.go:68", after := #[{ on := 0, ground := Go.Ground.phase }, { on := 1, ground := Go.Ground.phase }, { on := 2, ground := Go.Ground.phase }, { on := 3, ground := Go.Ground.phase }, { on := 4, ground := Go.Ground.phase }, { on := 5, ground := Go.Ground.phase }, { on := 6, ground := Go.Ground.phase }], guard := none }) (v := ?vb7_8) rfl (by kernel_rfl) (by kernel_rfl) (by kernel_rfl) (fun _ _ _ h => h) (Or.inl ⟨by rfl, ?hb7_8⟩) hHeld ?rb7_8
                case hb7_8 =>
                  intro wS hSw
                  (try dsimp only at hSw)
                  go_simp
                  try with_reducible rfl
                case rb7_8 =>
                simp only [Act.put, List.setIfInBounds_toArray, List.set_cons_zero, List.set_cons_succ]
                refine wpAnyH_ready (rs := [8]) (by kernel_rfl) (by simp) ?_
                refine AllReadyH.cons (o := { dst := none, op := Go.Op.store 29 (Go.Operand.tmp 58) (Go.Operand.tmp 57), type := 0, pos := "l07_ivf.go:68", after := #[{ on := 7, ground := Go.Ground.data }, { on := 6, ground := Go.Ground.data }, { on := 6, ground := Go.Ground.chain }, { on := 0, ground := Go.Ground.phase }, { on := 1, ground := Go.Ground.phase }, { on := 2, ground := Go.Ground.phase }, { on := 3, ground := Go.Ground.phase }, { on := 4, ground := Go.Ground.phase }, { on := 5, ground := Go.Ground.phase }, { on := 6, ground := Go.Ground.phase }], guard := none }) rfl (fun K hK => ?_) AllReadyH.nil
                have y1 := hX5.at 1 _ rfl
                have f1 := hX5.soft 1
                have l5 := hX5.lt
                go_simp
                refine hK.out _ _ (hHeld.setCell (by simp) _) (fun hHeld => ?_)
                clear hK K
                try simp only [Act.put, List.setIfInBounds_toArray, List.set_cons_zero, List.set_cons_succ]
                refine wpAnyH_done (by kernel_rfl) ?_ _
                refine NoPanic.normal ?_
                have HX9 : Hid (Box w.heap.size #[rc, .slice (some ⟨g5, 0, none⟩) (lk.length + 1) cp5] 31 (w5.setCell ⟨w.heap.size + 1, 1, none⟩ (.slice (some ⟨g5, 0, none⟩) (lk.length + 1) cp5)) (w.heap.size + 1)) := hX5.set 1 _
                have HT9 : Hid (Two (w5.setCell ⟨w.heap.size + 1, 1, none⟩ (.slice (some ⟨g5, 0, none⟩) (lk.length + 1) cp5)) (w.heap.size + 2) rc (.slice (some ⟨g5, 0, none⟩) (lk.length + 1) cp5) (cs.take (k + 1)) (lk ++ [⟨mineI cs xs k⟩])) := (Two.listsA (gCD.later hbw) s1 s2 x1 x2 x3 hG5 hE5 hor5 (fun q hq => by have := hi9 q hq; have := gCD_lo; omega) (fun q hq e => by have h1 := (gCD.own.lt q e).2; have h2 := hi9 q hq; omega)).ext (S := fun q => q = w.heap.size + 1) ((Ext.refl _ _).setCell ⟨w.heap.size + 1, 1, none⟩ _ rfl) (fun q h1 h2 => by omega)
                have HB9 := hide hHeld
                clear hHeld hG5 hb5 hE5 hX5 hG3 hbw gCD gLD hXD hHD hHM
                go_wp2_with fail
                go_roundw
                case rel => exact ⟨k + 1, _, _, by omega, by go_num, unhide HX9, by rw [unhide HTL]; exact unhide HT9, unhide HB9⟩
                case measure => simp [intOf]; omega
              case ob5_7 =>
                go_simp
                refine hK.out _ _ (hHeld.alloc (Nat.le_trans hW0 hHeld.size) _) (fun hHeld => ?_)
                clear hK K
                try simp only [Act.put, List.setIfInBounds_toArray, List.set_cons_zero, List.set_cons_succ]
                refine wpAnyH_ready (rs := [1]) (by kernel_rfl) (by simp) ?_
                refine AllReadyH.cons (o := { dst := some 52, op := Go.Op.load 29 (Go.Operand.tmp 51), type := 29, pos := "l07_ivf.go:68", after := #[{ on := 0, ground := Go.Ground.data }], guard := none }) rfl (fun K hK => ?_) AllReadyH.nil
                have y1 : (w3.alloc (.cells #[.slice a9 (mineI cs xs k).length d9] 104)).cell? ⟨w.heap.size + 1, 1, none⟩ = some rl := ((hXD.keep hbw).grow _).at 1 _ rfl
                go_simp
                refine hK.out _ _ hHeld (fun hHeld => ?_)
                clear hK K
                try simp only [Act.put, List.setIfInBounds_toArray, List.set_cons_zero, List.set_cons_succ]
                refine wpAnyH_ready (rs := [6]) (by kernel_rfl) (by simp) ?_
                refine AllReadyH.cons (o := { dst := some 57, op := Go.Op.call { callee := Go.Callee.builtin Go.Builtin.append, args := #[Go.Operand.tmp 52, Go.Operand.tmp 56], argTypes := #[29, 29] }, type := 29, pos := "l07_ivf.go:68", after := #[{ on := 1, ground := Go.Ground.data }, { on := 5, ground := Go.Ground.data }, { on := 3, ground := Go.Ground.chain }], guard := none }) rfl (fun K hK => ?_) AllReadyH.nil
                have hG3 := gLD.later hbw
                have hz3 := hbw.size
                refine step_append_IvfList hG3 (row := [.slice a9 (mineI cs xs k).length d9]) (x := ⟨mineI cs xs k⟩) (bl := bl9) hl9 (fun q hq e => by have h1 := (gLD.own.lt q e).2; have h2 := hi9 q hq; omega) rfl _ _ rfl rfl rfl (by have := unhide HLL; omega) (by have := gCD_lo; omega) ?_
                rintro g5 cp5 w5 hG5 hb5 hE5 hl5 hz5 hor5
                have hX5 : Box w.heap.size #[rc, rl] 31 w5 (w.heap.size + 1) := (hXD.keep hbw).ext hE5 (fun e => by have := (hG3.own.lt _ e).1; omega)
                refine hK.out _ _ ((below_up hW0 hHD hbw).trans (hb5.mono (by omega))) (fun hHeld => ?_)
                clear hK K
                try simp only [Act.put, List.setIfInBounds_toArray, List.set_cons_zero, List.set_cons_succ]
                refine wpAnyH_take (i := 7) (oi := { dst := some 58, op := Go.Op.fieldAddr 31 (Go.Operand.tmp 5) 1, type := 0, pos := "l07_ivf.go:68", after := #[{ on := 0, ground := Go.Ground.phase }, { on := 1, ground := Go.Ground.phase }, { on := 2, ground := Go.Ground.phase }, { on := 3, ground := Go.Ground.phase }, { on := 4, ground := Go.Ground.phase }, { on := 5, ground := Go.Ground.phase }, { on := 6, ground := Go.Ground.phase }], guard := none }) (v := ?vb7_9) rfl (by kernel_rfl) (by kernel_rfl) (by kernel_rfl) (fun _ _ _ h => h) (Or.inl ⟨by rfl, ?hb7_9⟩) hHeld ?rb7_9
                case hb7_9 =>
                  intro wS hSw
                  (try dsimp only at hSw)
                  go_simp
                  try with_reducible rfl
                case rb7_9 =>
                simp only [Act.put, List.setIfInBounds_toArray, List.set_cons_zero, List.set_cons_succ]
                refine wpAnyH_ready (rs := [8]) (by kernel_rfl) (by simp) ?_
                refine AllReadyH.cons (o := { dst := none, op := Go.Op.store 29 (Go.Operand.tmp 58) (Go.Operand.tmp 57), type := 0, pos := "l07_ivf.go:68", after := #[{ on := 7, ground := Go.Ground.data }, { on := 6, ground := Go.Ground.data }, { on := 6, ground := Go.Ground.chain }, { on := 0, ground := Go.Ground.phase }, { on := 1, ground := Go.Ground.phase }, { on := 2, ground := Go.Ground.phase }, { on := 3, ground := Go.Ground.phase }, { on := 4, ground := Go.Ground.phase }, { on := 5, ground := Go.Ground.phase }, { on := 6, ground := Go.Ground.phase }], guard := none }) rfl (fun K hK => ?_) AllReadyH.nil
                have y1 := hX5.at 1 _ rfl
                have f1 := hX5.soft 1
                have l5 := hX5.lt
                go_simp
                refine hK.out _ _ (hHeld.setCell (by simp) _) (fun hHeld => ?_)
                clear hK K
                try simp only [Act.put, List.setIfInBounds_toArray, List.set_cons_zero, List.set_cons_succ]
                refine wpAnyH_done (by kernel_rfl) ?_ _
                refine NoPanic.normal ?_
                have HX9 : Hid (Box w.heap.size #[rc, .slice (some ⟨g5, 0, none⟩) (lk.length + 1) cp5] 31 (w5.setCell ⟨w.heap.size + 1, 1, none⟩ (.slice (some ⟨g5, 0, none⟩) (lk.length + 1) cp5)) (w.heap.size + 1)) := hX5.set 1 _
                have HT9 : Hid (Two (w5.setCell ⟨w.heap.size + 1, 1, none⟩ (.slice (some ⟨g5, 0, none⟩) (lk.length + 1) cp5)) (w.heap.size + 2) rc (.slice (some ⟨g5, 0, none⟩) (lk.length + 1) cp5) (cs.take (k + 1)) (lk ++ [⟨mineI cs xs k⟩])) := (Two.listsA (gCD.later hbw) s1 s2 x1 x2 x3 hG5 hE5 hor5 (fun q hq => by have := hi9 q hq; have := gCD_lo; omega) (fun q hq e => by have h1 := (gCD.own.lt q e).2; have h2 := hi9 q hq; omega)).ext (S := fun q => q = w.heap.size + 1) ((Ext.refl _ _).setCell ⟨w.heap.size + 1, 1, none⟩ _ rfl) (fun q h1 h2 => by omega)
                have HB9 := hide hHeld
                clear hHeld hG5 hb5 hE5 hX5 hG3 hbw gCD gLD hXD hHD hHM
                go_wp2_with fail
                go_roundw
                case rel => exact ⟨k + 1, _, _, by omega, by go_num, unhide HX9, by rw [unhide HTL]; exact unhide HT9, unhide HB9⟩
                case measure => simp [intOf]; omega
    · obtain rfl : k = cs.length := by omega
      rw [List.take_length, show (buildI cs xs).lists.take cs.length = (buildI cs xs).lists by rw [← buildI_len cs xs, List.take_length]] at hT
      have HLI := hide (hT.lies (by omega) (by rw [buildI_len]; omega))
      have bR : Box w.heap.size #[.slice none 0 0, .slice none 0 0] 31 wr w.heap.size := ⟨Nat.le_refl _, (hB.block _ (by omega)).trans (unhide HR).2⟩
      obtain ⟨_, _, _, _, gC, gL, -⟩ := hT
      obtain ⟨a8, d8, rfl⟩ := open_sl (gC.toReads (by omega))
      obtain ⟨a9, d9, rfl⟩ := open_sl (gL.toReads (by rw [buildI_len]; omega))
      have z0 : wr.cell? ⟨w.heap.size, 0, none⟩ = some (.slice none 0 0) := bR.at 0 _ rfl
      have z1 : wr.cell? ⟨w.heap.size, 1, none⟩ = some (.slice none 0 0) := bR.at 1 _ rfl
      have y0 := hX.at 0 _ rfl
      have y1 := hX.at 1 _ rfl
      have f0 := bR.soft 0
      have f1 := bR.soft 1
      have l0 := bR.lt
      have HB9 := hide ((unhide HBW).trans (hB.mono (by omega)))
      clear hB hX bR gC gL HR
      generalize hm9 : (buildI cs xs).lists.length = n9 at *
      clear hm9
      go_wp2_with fail
      refine bodyPost_ret (v := .agg #[.slice a8 cs.length d8, .slice a9 n9 d9]) (by simp [results, Tryz.results41, go_sem, z0, z1]) rfl ?_
      have hE : Ext (fun c => c = w.heap.size) wr ((wr.setCell ⟨w.heap.size, 0, none⟩ (.slice a8 cs.length d8)).setCell ⟨w.heap.size, 1, none⟩ (.slice a9 n9 d9)) := ((Ext.refl (fun c => c = w.heap.size) _).setCell ⟨w.heap.size, 0, none⟩ _ rfl).setCell ⟨w.heap.size, 1, none⟩ _ rfl
      exact ⟨[.slice a8 cs.length d8, .slice a9 n9 d9], rfl, ((unhide HLI).ext hE (fun c h1 _ h3 => by omega)).mono (by omega) (by simp), ((unhide HB9).setCell (by simp) _).setCell (by simp) _⟩

end Go.Proofs.YtfgadegpdknocaaGreat

namespace Go.Proofs.YtfgadegpdknocaaGreat
open Go.RowKit

theorem read_ivfR {w : World} {c : Int} {a1 : Option Addr} {d1 : Nat} {a2 : Option Addr} {d2 : Nat} {x : DIvf} (hc : (Lit.int .i64 c).wf = true) (h : Lay.tIvf.Reads w [.slice a1 x.centers.length d1, .slice a2 x.lists.length d2] x) : Lay.tIvfResult.Reads w [.int .i64 c, .slice a1 x.centers.length d1, .slice a2 x.lists.length d2] ⟨c, x⟩ := by
  obtain ⟨bl, h⟩ := h
  exact ⟨[] ++ bl, [.int .i64 c], [.slice a1 x.centers.length d1, .slice a2 x.lists.length d2], [], bl, rfl, rfl, ⟨rfl, hc, rfl⟩, h⟩
theorem read_ivfCode {w : World} {c : Int} (hc : (Lit.int .i64 c).wf = true) : Lay.tIvfResult.Reads w [.int .i64 c, .slice none 0 0, .slice none 0 0] ⟨c, emptyI⟩ :=
  read_ivfR (x := emptyI) hc ⟨[], lies_Ivf.2 ⟨none, 0, [], none, 0, [], rfl, rfl, ⟨none, 0, rfl, by simp [emptyI], Or.inl ⟨rfl, rfl⟩⟩, ⟨none, 0, rfl, by simp [emptyI], Or.inl ⟨rfl, rfl⟩⟩⟩⟩

end Go.Proofs.YtfgadegpdknocaaGreat

namespace Go.Proofs.YtfgadegpdknocaaGreat
open Go.RowKit

def askF (xs : List DItem) (id : Int) : Int := if tableFault xs = 0 then (if idB id then 0 else 3) else tableFault xs
theorem find_first {xs : List DItem} {id : Int} (k : Nat) (hk : k < xs.length) (h : ∀ j (hj : j < xs.length), j < k → xs[j].id ≠ id) (e : xs[k].id = id) : xs.find? (fun x => x.id == id) = some xs[k] := by
  induction xs generalizing k with
  | nil => simp at hk
  | cons x xs ih =>
    match k with
    | 0 => rw [List.find?_cons_of_pos (by simpa using e)]; rfl
    | k + 1 =>
      have h0 : x.id ≠ id := h 0 (by simp) (by omega)
      rw [List.find?_cons_of_neg (by simpa using h0)]
      exact ih k (by simpa using hk) (fun j hj hjk => h (j + 1) (by simpa using hj) (by omega)) (by simpa using e)
theorem has_none {xs : List DItem} {id : Int} (h : ∀ j (hj : j < xs.length), xs[j].id ≠ id) : hasI xs id = false := by
  simp only [hasI, List.any_eq_false, beq_iff_eq]
  intro x hx
  obtain ⟨j, hj, rfl⟩ := List.getElem_of_mem hx
  exact h j hj

/-- Where an item is: its place, or -1. -/
def AtI (xs : List DItem) (id r : Int) : Prop := (r = -1 ∧ hasI xs id = false) ∨ ∃ (k : Nat) (h : k < xs.length), r = k ∧ xs.find? (fun x => x.id == id) = some xs[k]

set_option maxRecDepth 10000 in
set_option maxHeartbeats 1000000 in
theorem specAt_pos (b off cap : Nat) (xs : List DItem) (id : Int) (w : World) (h : (Lay.sl Lay.tItem).Reads w [.slice (some ⟨b, off, none⟩) xs.length cap] xs) :
    Calls Tryz.prog 40 #[.slice (some ⟨b, off, none⟩) xs.length cap, .int .i64 id] w fun e w' => (∃ r, e = .returned (.int .i64 r) ∧ AtI xs id r) ∧ w' = w := by
  have hbig := h.big
  have H := hide h
  clear h
  go_enter Tryz.func40, Tryz.ntmps40
  go_wp2_with fail
  go_loop [5] (fun i => ∃ k : Nat, k ≤ xs.length ∧ i = .int .i64 k ∧ ∀ j (hj : j < xs.length), j < k → xs[j].id ≠ id) (fun i => xs.length - (intOf i).toNat)
  case atStart => exact ⟨0, Nat.zero_le _, rfl, fun j _ hj => by omega⟩
  case round =>
    obtain ⟨k, hk, rfl, hq⟩ := hrel
    have HQ := hide hq
    clear hq
    by_cases hlt : k < xs.length
    · obtain ⟨row, hc, hr⟩ := Lay.row_at (unhide H) hlt
      obtain ⟨a1, d1, rfl, -⟩ := open_Item hr
      have c0 : w.cell? ⟨b, off + k * 2, none⟩ = some (.int .i64 (xs[k]).id) := hc 0 (by decide)
      clear hc hr
      by_cases e : xs[k].id = id
      · have HA : Hid (AtI xs id k) := Or.inr ⟨k, hlt, rfl, find_first k hlt (unhide HQ) e⟩
        have hd : (xs[k].id == id) = true := by simpa using e
        clear e
        go_wp2_with fail
        go_ret
        exact ⟨⟨_, rfl, unhide HA⟩, rfl⟩
      · have hd : (xs[k].id == id) = false := by simpa using e
        have HE := hide e
        clear e
        go_wp2_with fail
        go_round
        case rel =>
          refine ⟨k + 1, by omega, by go_num, fun j hj hjk => ?_⟩
          by_cases hjk2 : j < k
          · exact unhide HQ j hj hjk2
          · obtain rfl : j = k := by omega
            exact unhide HE
        case measure => simp [intOf]; omega
    · have HA : Hid (AtI xs id (-1)) := Or.inl ⟨rfl, has_none fun j hj => unhide HQ j hj (by omega)⟩
      clear H HQ
      go_wp2_with fail
      go_ret
      exact ⟨⟨_, rfl, unhide HA⟩, rfl⟩

/-- l4At of the model. -/
theorem specAt (v : Value) (xs : List DItem) (id : Int) (w : World) (h : (Lay.sl Lay.tItem).Reads w [v] xs) :
    Calls Tryz.prog 40 #[v, .int .i64 id] w fun e w' => (∃ r, e = .returned (.int .i64 r) ∧ AtI xs id r) ∧ w' = w := by
  obtain ⟨ao, cap, rfl⟩ := open_sl h
  by_cases hp : 0 < xs.length
  · obtain ⟨b, off, rfl, hbl⟩ := Lay.sl_addr h hp
    exact specAt_pos b off cap xs id w h
  · obtain rfl : xs = [] := List.eq_nil_of_length_eq_zero (by omega)
    clear h hp
    go_enter Tryz.func40, Tryz.ntmps40
    go_wp2_with fail
    refine wp_loop_rounds 1 ?_
    rw [rounds_succ]
    go_wp2_with fail
    go_ret
    exact ⟨⟨_, rfl, Or.inl ⟨rfl, rfl⟩⟩, rfl⟩

end Go.Proofs.YtfgadegpdknocaaGreat

namespace Go.Proofs.YtfgadegpdknocaaGreat
open Go.RowKit

set_option maxRecDepth 100000 in
set_option maxHeartbeats 8000000 in
theorem specAddIvf (cs : List Value) (x : DIvf) (id : Int) (vv : Value) (vec : List Int) (w : World) (h : Lay.tIvf.Reads w cs x) (hv : (Lay.sl Lay.int).Reads w [vv] vec) :
    Calls Tryz.prog 8 #[.agg cs.toArray, .int .i64 id, vv] w fun e w' => ∃ cs', e = .returned (.agg cs'.toArray) ∧ Lay.tIvfResult.Reads w' cs' (addIvfR x id vec) ∧ Below w.heap.size w w' := by
  obtain ⟨ac, dc, al, dl, rfl, R0, R1⟩ := open_Ivf h
  have HB0 : Below w.heap.size w ((w.alloc (.cells #[.slice ac x.centers.length dc, .slice al x.lists.length dl] 31)).alloc (.cells #[.int .i64 0, .slice none 0 0, .slice none 0 0] 33)) := ((Below.refl _ _).alloc (Nat.le_refl _) _).alloc (by simp) _
  have bx : Box w.heap.size #[.slice ac x.centers.length dc, .slice al x.lists.length dl] 31 ((w.alloc (.cells #[.slice ac x.centers.length dc, .slice al x.lists.length dl] 31)).alloc (.cells #[.int .i64 0, .slice none 0 0, .slice none 0 0] 33)) w.heap.size := (newBox (Nat.le_refl _)).grow _
  have bR : Box w.heap.size #[.int .i64 0, .slice none 0 0, .slice none 0 0] 33 ((w.alloc (.cells #[.slice ac x.centers.length dc, .slice al x.lists.length dl] 31)).alloc (.cells #[.int .i64 0, .slice none 0 0, .slice none 0 0] 33)) (w.heap.size + 1) := newBoxAt (by omega) (by simp)
  have hA := ivfAt_box bx (R0.later HB0) (R1.later HB0)
  have hv0 := hv.later HB0
  obtain ⟨av, dv, rfl⟩ := open_sl hv
  clear hv
  have HR0 := hide R0.liesIn
  have HR1 := hide R1.liesIn
  clear h R0 R1 bx
  go_enter Tryz.func8, Tryz.ntmps8
  go_wp2_with fail
  generalize (w.alloc (.cells #[.slice ac x.centers.length dc, .slice al x.lists.length dl] 31)).alloc (.cells #[.int .i64 0, .slice none 0 0, .slice none 0 0] 33) = W0 at *
  refine (specAsk7 w.heap.size x ac dc al dl id W0 hA).mono ?_
  rintro e w1 ⟨rfl, hb⟩
  have HA := hide (hA.later hb)
  have HV := hide (hv0.later hb)
  clear hv0
  replace bR := bR.keep hb
  replace HB0 := HB0.trans (hb.mono HB0.size)
  have z0 : w1.cell? ⟨w.heap.size + 1, 0, none⟩ = some (.int .i64 0) := bR.at 0 _ rfl
  have z1 : w1.cell? ⟨w.heap.size + 1, 1, none⟩ = some (.slice none 0 0) := bR.at 1 _ rfl
  have z2 : w1.cell? ⟨w.heap.size + 1, 2, none⟩ = some (.slice none 0 0) := bR.at 2 _ rfl
  have f0 := bR.soft 0
  have f1 := bR.soft 1
  have f2 := bR.soft 2
  have l0 := bR.lt
  have HB := hide HB0
  have HR := hide bR
  have KA : Hid (∀ W, Below (w.heap.size + 1) w1 W → IvfAt W w.heap.size x ac dc al dl) := fun W hW => ⟨(hW.cell (p := ⟨w.heap.size, 0, none⟩) (by show w.heap.size < w.heap.size + 1; omega)).trans (unhide HA).c0, (hW.cell (p := ⟨w.heap.size, 1, none⟩) (by show w.heap.size < w.heap.size + 1; omega)).trans (unhide HA).c1, (((unhide HR0).later (unhide HB)).below hW (by omega)).reads, (((unhide HR1).later (unhide HB)).below hW (by omega)).reads⟩
  clear hb HB0 bR hA
  by_cases hf : askedI x id = 0
  · obtain ⟨hi0, hid⟩ := askedI_zero hf
    have HG0 : Hid (addIvfR x id vec = if vecFault vec = 0 then (if 30 ≤ (allIs x.lists).length ∧ hasI (allIs x.lists) id = false then ⟨2, emptyI⟩ else ⟨0, buildI x.centers (putI (allIs x.lists) id vec)⟩) else ⟨vecFault vec, emptyI⟩) := by
      show addIvfR x id vec = _
      rw [addIvfR, if_pos hf]
    rw [hf]
    clear hf
    go_wp2_with fail
    refine (modelFault _ vec _ (Lay.ints_reads (unhide HV))).mono ?_
    rintro e w1 ⟨rfl, rfl⟩
    by_cases hvf : vecFault vec = 0
    · rw [hvf]
      rw [if_pos hvf] at HG0
      have HV3 := hide (vecFault_zero hvf).1
      obtain ⟨hl, hn⟩ := ivf_small hi0
      have hrt := all_right hi0
      have hcf := (ivfFault_zero hi0).1
      obtain ⟨s1, s2⟩ := right_less hrt
      have HLI := hide (specItems7 w.heap.size x ac dc al dl w1 (unhide HA) hl hn)
      clear z0 z1 z2 f0 f1 f2 l0
      go_wp2_with fail
      refine (unhide HLI).mono ?_
      clear HLI
      rename World => w0
      rintro e w1 ⟨v7, rfl, hO7, hb⟩
      obtain ⟨a7, d7, rfl⟩ := open_sl hO7.reads
      replace HA := hide ((unhide HA).later hb)
      replace HV := hide ((unhide HV).later hb)
      have hz00 := (unhide HR).lt
      replace HR := hide ((unhide HR).keep hb)
      replace KA : Hid (∀ W, Below (w.heap.size + 1) w1 W → IvfAt W w.heap.size x ac dc al dl) := fun W hW => unhide KA W ((hb.mono (by omega)).trans hW)
      replace HB := hide ((unhide HB).trans (hb.mono (unhide HB).size))
      have HI7 := hide hO7.reads
      clear hb hO7
      have z0 : w1.cell? ⟨w.heap.size + 1, 0, none⟩ = some (.int .i64 0) := (unhide HR).at 0 _ rfl
      have z1 : w1.cell? ⟨w.heap.size + 1, 1, none⟩ = some (.slice none 0 0) := (unhide HR).at 1 _ rfl
      have z2 : w1.cell? ⟨w.heap.size + 1, 2, none⟩ = some (.slice none 0 0) := (unhide HR).at 2 _ rfl
      have f0 := (unhide HR).soft 0
      have f1 := (unhide HR).soft 1
      have f2 := (unhide HR).soft 2
      have l0 := (unhide HR).lt
      obtain ⟨y9, hy9⟩ : ∃ y, buildI x.centers (putI (allIs x.lists) id vec) = y := ⟨_, rfl⟩
      have LA := hide (specAt _ (allIs x.lists) id w1 (unhide HI7))
      have c0 := (unhide HA).c0
      by_cases h30 : (allIs x.lists).length < 30
      · have hd : decide ((30 : Int) ≤ ((allIs x.lists).length : Int)) = false := by simp; omega
        have HG : Hid (addIvfR x id vec = ⟨0, y9⟩) := by
          show addIvfR x id vec = _
          rw [unhide HG0, if_neg (by omega), hy9]
        have hrd := right_put hrt hid hvf (Or.inr h30)
        have LS : Hid (∀ W, Below w1.heap.size w1 W → Calls Tryz.prog 42 #[.slice a7 (allIs x.lists).length d7, .int .i64 id, .slice av vec.length dv, .bool true] W fun e w' => ∃ a d, e = .returned (.slice a (putI (allIs x.lists) id vec).length d) ∧ (Lay.sl Lay.tItem).Reads w' [.slice a (putI (allIs x.lists) id vec).length d] (putI (allIs x.lists) id vec) ∧ Below W.heap.size W w') := fun W hW => by
          have L := specSet _ (allIs x.lists) id vec _ true W ((unhide HI7).later hW) ((unhide HV).later hW) (id_wf hid) s1 s2 (by have := unhide HV3; omega)
          rw [setM_put (tableFault_zero hrt).2.2] at L
          refine L.mono ?_
          rintro e w' ⟨v', rfl, hO, hb⟩
          obtain ⟨a, d, rfl⟩ := open_sl hO.reads
          exact ⟨a, d, rfl, hO.reads, hb⟩
        have LB : Hid (∀ W a d, Below (w.heap.size + 1) w1 W → (Lay.sl Lay.tItem).Reads W [.slice a (putI (allIs x.lists) id vec).length d] (putI (allIs x.lists) id vec) → Calls Tryz.prog 41 #[.slice ac x.centers.length dc, .slice a (putI (allIs x.lists) id vec).length d] W fun e w' => ∃ a1 d1 a2 d2, e = .returned (.agg #[.slice a1 y9.centers.length d1, .slice a2 y9.lists.length d2]) ∧ Lay.tIvf.LiesIn w' [.slice a1 y9.centers.length d1, .slice a2 y9.lists.length d2] y9 (W.heap.size + 1) w'.heap.size ∧ Below W.heap.size W w') := fun W a d hW hR => by
          refine (specBuild7 _ x.centers _ (putI (allIs x.lists) id vec) W (unhide KA W hW).cens hR hcf hrd).mono ?_
          rintro e w' ⟨cs', rfl, hO, hb⟩
          rw [hy9] at hO
          obtain ⟨a1, d1, a2, d2, rfl, -, -⟩ := open_Ivf hO.reads
          exact ⟨a1, d1, a2, d2, rfl, hO, hb⟩
        clear hi0 hid hl hn hrt hcf hrd s1 s2 hy9 HA HI7 HV LA hvf HV3 HG0 h30
        generalize (putI (allIs x.lists) id vec) = ds at *
        generalize allIs x.lists = as0 at *
        have hW1 : w.heap.size + 1 ≤ w1.heap.size := by have := (unhide HR).lt; omega
        have hHD : Below (w.heap.size + 1) w1 w1.drew := (Below.refl _ _).drew
        have nb0 : Below w1.heap.size w1 w1.drew := (Below.refl _ _).drew
        clear z0 z1 z2 f0 f1 f2 l0
        go_upto_region 10 with fail
        refine wp_region_noPanic ?_
        refine wp_region_held_drew (S := fun w' => Below (w.heap.size + 1) w1 w') (by kernel_rfl) hHD (fun hHeld => ?_)
        generalize w1.drew = wD at hHeld nb0 ⊢
        refine wpAnyH_take (i := 0) (oi := { dst := some 33, op := Go.Op.fieldAddr 31 (Go.Operand.tmp 3) 0, type := 0, pos := "l07_ivf.go:101", after := #[], guard := none }) (v := ?vd0) rfl (by kernel_rfl) (by kernel_rfl) (by kernel_rfl) (fun _ _ _ h => h) (Or.inl ⟨by rfl, ?hd0⟩) hHeld ?rd0
        case hd0 =>
          intro wS hSw
          (try dsimp only at hSw)
          go_simp
          try with_reducible rfl
        case rd0 =>
        simp only [Act.put, List.setIfInBounds_toArray, List.set_cons_zero, List.set_cons_succ]
        refine wpAnyH_take (i := 1) (oi := { dst := some 34, op := Go.Op.load 28 (Go.Operand.tmp 33), type := 28, pos := "l07_ivf.go:101", after := #[{ on := 0, ground := Go.Ground.data }], guard := none }) (v := ?vd1) rfl (by kernel_rfl) (by kernel_rfl) (by kernel_rfl) (fun _ _ _ h => h) (Or.inl ⟨by rfl, ?hd1⟩) hHeld ?rd1
        case hd1 =>
          intro wS hSw
          have y1 := (hSw.cell (p := ⟨w.heap.size, 0, none⟩) (by show w.heap.size < w.heap.size + 1; omega)).trans c0
          clear hSw
          (try dsimp only at hSw)
          go_simp
          try with_reducible rfl
        case rd1 =>
        simp only [Act.put, List.setIfInBounds_toArray, List.set_cons_zero, List.set_cons_succ]
        refine wpAnyH_take (i := 2) (oi := { dst := some 35, op := Go.Op.move (Go.Operand.tmp 9), type := 57, pos := "l07_ivf.go:101", after := #[], guard := none }) (v := ?vd2) rfl (by kernel_rfl) (by kernel_rfl) (by kernel_rfl) (fun _ _ _ h => h) (Or.inl ⟨by rfl, ?hd2⟩) hHeld ?rd2
        case hd2 =>
          intro wS hSw
          (try dsimp only at hSw)
          go_simp
          try with_reducible rfl
        case rd2 =>
        simp only [Act.put, List.setIfInBounds_toArray, List.set_cons_zero, List.set_cons_succ]
        refine wpAnyH_take (i := 3) (oi := { dst := some 36, op := Go.Op.move (Go.Operand.tmp 1), type := 2, pos := "l07_ivf.go:101", after := #[], guard := none }) (v := ?vd3) rfl (by kernel_rfl) (by kernel_rfl) (by kernel_rfl) (fun _ _ _ h => h) (Or.inl ⟨by rfl, ?hd3⟩) hHeld ?rd3
        case hd3 =>
          intro wS hSw
          (try dsimp only at hSw)
          go_simp
          try with_reducible rfl
        case rd3 =>
        simp only [Act.put, List.setIfInBounds_toArray, List.set_cons_zero, List.set_cons_succ]
        refine wpAnyH_take (i := 4) (oi := { dst := some 37, op := Go.Op.move (Go.Operand.tmp 2), type := 26, pos := "l07_ivf.go:101", after := #[], guard := none }) (v := ?vd4) rfl (by kernel_rfl) (by kernel_rfl) (by kernel_rfl) (fun _ _ _ h => h) (Or.inl ⟨by rfl, ?hd4⟩) hHeld ?rd4
        case hd4 =>
          intro wS hSw
          (try dsimp only at hSw)
          go_simp
          try with_reducible rfl
        case rd4 =>
        simp only [Act.put, List.setIfInBounds_toArray, List.set_cons_zero, List.set_cons_succ]
        refine wpAnyH_ready (rs := [5]) (by kernel_rfl) (by simp) ?_
        refine AllReadyH.cons (o := { dst := some 38, op := Go.Op.call { callee := Go.Callee.value (Go.Operand.func 42), args := #[Go.Operand.tmp 35, Go.Operand.tmp 36, Go.Operand.tmp 37, Go.Operand.const (Go.Value.bool true)], argTypes := #[57, 2, 26, 4] }, type := 57, pos := "l07_ivf.go:101", after := #[{ on := 2, ground := Go.Ground.data }, { on := 3, ground := Go.Ground.data }, { on := 4, ground := Go.Ground.data }], guard := none }) rfl (fun K hK => ?_) AllReadyH.nil
        go_simp
        go_at_call 42
        refine (unhide LS _ nb0).mono ?_
        rintro e w4 ⟨a8, d8, rfl, hO8, hb4⟩
        have nb2 := below_up (Nat.le_refl _) nb0 hb4
        try go_wp2_with fail
        refine hK.out _ _ (below_up hW1 hHeld hb4) (fun hHeld => ?_)
        clear hK K
        try simp only [Act.put, List.setIfInBounds_toArray, List.set_cons_zero, List.set_cons_succ]
        refine wpAnyH_ready (rs := [6]) (by kernel_rfl) (by simp) ?_
        refine AllReadyH.cons (o := { dst := some 39, op := Go.Op.call { callee := Go.Callee.value (Go.Operand.func 41), args := #[Go.Operand.tmp 34, Go.Operand.tmp 38], argTypes := #[28, 57] }, type := 31, pos := "l07_ivf.go:101", after := #[{ on := 1, ground := Go.Ground.data }, { on := 5, ground := Go.Ground.data }, { on := 5, ground := Go.Ground.chain }], guard := none }) rfl (fun K hK => ?_) AllReadyH.nil
        go_simp
        go_at_call 41
        refine (unhide LB _ _ _ hHeld hO8).mono ?_
        rintro e w5 ⟨a1, d1, a2, d2, rfl, hO5, hb5⟩
        have nb3 := below_up (Nat.le_refl _) nb2 hb5
        try go_wp2_with fail
        refine hK.out _ _ (below_up hW1 hHeld hb5) (fun hHeld => ?_)
        clear hK K
        try simp only [Act.put, List.setIfInBounds_toArray, List.set_cons_zero, List.set_cons_succ]
        refine wpAnyH_take (i := 7) (oi := { dst := some 40, op := Go.Op.build 33 #[(1, Go.Operand.tmp 39)], type := 33, pos := "l07_ivf.go:101", after := #[{ on := 6, ground := Go.Ground.data }], guard := none }) (v := ?vd7) rfl (by kernel_rfl) (by kernel_rfl) (by kernel_rfl) (fun _ _ _ h => h) (Or.inl ⟨by rfl, ?hd7⟩) hHeld ?rd7
        case hd7 =>
          intro wS hSw
          (try dsimp only at hSw)
          go_simp
          try with_reducible rfl
        case rd7 =>
        simp only [Act.put, List.setIfInBounds_toArray, List.set_cons_zero, List.set_cons_succ]
        refine wpAnyH_ready (rs := [8]) (by kernel_rfl) (by simp) ?_
        refine AllReadyH.cons (o := { dst := none, op := Go.Op.store 33 (Go.Operand.tmp 6) (Go.Operand.tmp 40), type := 0, pos := "l07_ivf.go:101", after := #[{ on := 7, ground := Go.Ground.data }, { on := 6, ground := Go.Ground.chain }, { on := 0, ground := Go.Ground.phase }, { on := 1, ground := Go.Ground.phase }, { on := 2, ground := Go.Ground.phase }, { on := 3, ground := Go.Ground.phase }, { on := 4, ground := Go.Ground.phase }, { on := 5, ground := Go.Ground.phase }, { on := 6, ground := Go.Ground.phase }, { on := 7, ground := Go.Ground.phase }], guard := none }) rfl (fun K hK => ?_) AllReadyH.nil
        have bR := (unhide HR).keep nb3
        have z0 : w5.cell? ⟨w.heap.size + 1, 0, none⟩ = some (.int .i64 0) := bR.at 0 _ rfl
        have z1 : w5.cell? ⟨w.heap.size + 1, 1, none⟩ = some (.slice none 0 0) := bR.at 1 _ rfl
        have z2 : w5.cell? ⟨w.heap.size + 1, 2, none⟩ = some (.slice none 0 0) := bR.at 2 _ rfl
        have f0 := bR.soft 0
        have f1 := bR.soft 1
        have f2 := bR.soft 2
        have l0 := bR.lt
        go_simp
        refine hK.out _ _ (((hHeld.setCell (by simp) _).setCell (by simp) _).setCell (by simp) _) (fun hHeld => ?_)
        clear hK K
        try simp only [Act.put, List.setIfInBounds_toArray, List.set_cons_zero, List.set_cons_succ]
        refine wpAnyH_done (by kernel_rfl) ?_ _
        refine NoPanic.normal ?_
        have hz9 : w1.heap.size ≤ w4.heap.size := nb2.size
        have hz1 := (unhide HR).lt
        have HB9 := hide ((unhide HB).trans (hHeld.mono (Nat.le_succ _)))
        clear hHeld
        go_wp2_with fail
        refine bodyPost_ret (v := .agg #[.int .i64 0, .slice a1 y9.centers.length d1, .slice a2 y9.lists.length d2]) (by simp [results, Tryz.results8, go_sem, z0, z1, z2]) rfl ?_
        have hE : Ext (fun c => c = w.heap.size + 1) w5 (((w5.setCell ⟨w.heap.size + 1, 0, none⟩ (.int .i64 0)).setCell ⟨w.heap.size + 1, 1, none⟩ (.slice a1 y9.centers.length d1)).setCell ⟨w.heap.size + 1, 2, none⟩ (.slice a2 y9.lists.length d2)) := (((Ext.refl (fun c => c = w.heap.size + 1) _).setCell ⟨w.heap.size + 1, 0, none⟩ _ rfl).setCell ⟨w.heap.size + 1, 1, none⟩ _ rfl).setCell ⟨w.heap.size + 1, 2, none⟩ _ rfl
        rw [unhide HG]
        exact ⟨[.int .i64 0, .slice a1 y9.centers.length d1, .slice a2 y9.lists.length d2], rfl, read_ivfR (by decide) ((hO5.ext hE (fun c h1 _ h3 => by omega)).reads), unhide HB9⟩
      · have hd : decide ((30 : Int) ≤ ((allIs x.lists).length : Int)) = true := by simp; omega
        go_wp2_with fail
        refine (unhide LA).mono ?_
        rintro e w1 ⟨⟨r, rfl, hA⟩, rfl⟩
        rcases hA with ⟨rfl, hno⟩ | ⟨k, hk, rfl, hfd⟩
        · have HG : Hid (addIvfR x id vec = ⟨2, emptyI⟩) := by
            show addIvfR x id vec = _
            rw [unhide HG0, if_pos ⟨by omega, hno⟩]
          clear hno
          go_wp2_with fail
          refine bodyPost_ret (v := .agg #[.int .i64 (2), .slice none 0 0, .slice none 0 0]) (by simp [results, Tryz.results8, go_sem, z0, z1, z2]) rfl ?_
          rw [unhide HG]
          exact ⟨[.int .i64 (2), .slice none 0 0, .slice none 0 0], rfl, read_ivfCode (by decide), (((unhide HB).setCell (by simp) _).setCell (by simp) _).setCell (by simp) _⟩
        · have hhas : hasI (allIs x.lists) id = true := by
            obtain ⟨hx, hxi⟩ := find_at hfd
            cases hh : hasI (allIs x.lists) id with
            | true => rfl
            | false => exact absurd hxi (hasI_false hh _ hx)
          have HG : Hid (addIvfR x id vec = ⟨0, y9⟩) := by
            show addIvfR x id vec = _
            rw [unhide HG0, if_neg (by rw [hhas]; simp), hy9]
          have hrd := right_put hrt hid hvf (Or.inl hhas)
          have LS : Hid (∀ W, Below w1.heap.size w1 W → Calls Tryz.prog 42 #[.slice a7 (allIs x.lists).length d7, .int .i64 id, .slice av vec.length dv, .bool true] W fun e w' => ∃ a d, e = .returned (.slice a (putI (allIs x.lists) id vec).length d) ∧ (Lay.sl Lay.tItem).Reads w' [.slice a (putI (allIs x.lists) id vec).length d] (putI (allIs x.lists) id vec) ∧ Below W.heap.size W w') := fun W hW => by
            have L := specSet _ (allIs x.lists) id vec _ true W ((unhide HI7).later hW) ((unhide HV).later hW) (id_wf hid) s1 s2 (by have := unhide HV3; omega)
            rw [setM_put (tableFault_zero hrt).2.2] at L
            refine L.mono ?_
            rintro e w' ⟨v', rfl, hO, hb⟩
            obtain ⟨a, d, rfl⟩ := open_sl hO.reads
            exact ⟨a, d, rfl, hO.reads, hb⟩
          have LB : Hid (∀ W a d, Below (w.heap.size + 1) w1 W → (Lay.sl Lay.tItem).Reads W [.slice a (putI (allIs x.lists) id vec).length d] (putI (allIs x.lists) id vec) → Calls Tryz.prog 41 #[.slice ac x.centers.length dc, .slice a (putI (allIs x.lists) id vec).length d] W fun e w' => ∃ a1 d1 a2 d2, e = .returned (.agg #[.slice a1 y9.centers.length d1, .slice a2 y9.lists.length d2]) ∧ Lay.tIvf.LiesIn w' [.slice a1 y9.centers.length d1, .slice a2 y9.lists.length d2] y9 (W.heap.size + 1) w'.heap.size ∧ Below W.heap.size W w') := fun W a d hW hR => by
            refine (specBuild7 _ x.centers _ (putI (allIs x.lists) id vec) W (unhide KA W hW).cens hR hcf hrd).mono ?_
            rintro e w' ⟨cs', rfl, hO, hb⟩
            rw [hy9] at hO
            obtain ⟨a1, d1, a2, d2, rfl, -, -⟩ := open_Ivf hO.reads
            exact ⟨a1, d1, a2, d2, rfl, hO, hb⟩
          have hd2 : decide ((k : Int) < 0) = false := by simp
          clear hi0 hid hl hn hrt hcf hrd s1 s2 hy9 HA HI7 HV LA hvf HV3 HG0 h30 hhas hfd hk
          generalize (putI (allIs x.lists) id vec) = ds at *
          generalize allIs x.lists = as0 at *
          have hW1 : w.heap.size + 1 ≤ w1.heap.size := by have := (unhide HR).lt; omega
          have hHD : Below (w.heap.size + 1) w1 w1.drew := (Below.refl _ _).drew
          have nb0 : Below w1.heap.size w1 w1.drew := (Below.refl _ _).drew
          clear z0 z1 z2 f0 f1 f2 l0
          go_upto_region 10 with fail
          refine wp_region_noPanic ?_
          refine wp_region_held_drew (S := fun w' => Below (w.heap.size + 1) w1 w') (by kernel_rfl) hHD (fun hHeld => ?_)
          generalize w1.drew = wD at hHeld nb0 ⊢
          refine wpAnyH_take (i := 0) (oi := { dst := some 33, op := Go.Op.fieldAddr 31 (Go.Operand.tmp 3) 0, type := 0, pos := "l07_ivf.go:101", after := #[], guard := none }) (v := ?ve0) rfl (by kernel_rfl) (by kernel_rfl) (by kernel_rfl) (fun _ _ _ h => h) (Or.inl ⟨by rfl, ?he0⟩) hHeld ?re0
          case he0 =>
            intro wS hSw
            (try dsimp only at hSw)
            go_simp
            try with_reducible rfl
          case re0 =>
          simp only [Act.put, List.setIfInBounds_toArray, List.set_cons_zero, List.set_cons_succ]
          refine wpAnyH_take (i := 1) (oi := { dst := some 34, op := Go.Op.load 28 (Go.Operand.tmp 33), type := 28, pos := "l07_ivf.go:101", after := #[{ on := 0, ground := Go.Ground.data }], guard := none }) (v := ?ve1) rfl (by kernel_rfl) (by kernel_rfl) (by kernel_rfl) (fun _ _ _ h => h) (Or.inl ⟨by rfl, ?he1⟩) hHeld ?re1
          case he1 =>
            intro wS hSw
            have y1 := (hSw.cell (p := ⟨w.heap.size, 0, none⟩) (by show w.heap.size < w.heap.size + 1; omega)).trans c0
            clear hSw
            (try dsimp only at hSw)
            go_simp
            try with_reducible rfl
          case re1 =>
          simp only [Act.put, List.setIfInBounds_toArray, List.set_cons_zero, List.set_cons_succ]
          refine wpAnyH_take (i := 2) (oi := { dst := some 35, op := Go.Op.move (Go.Operand.tmp 9), type := 57, pos := "l07_ivf.go:101", after := #[], guard := none }) (v := ?ve2) rfl (by kernel_rfl) (by kernel_rfl) (by kernel_rfl) (fun _ _ _ h => h) (Or.inl ⟨by rfl, ?he2⟩) hHeld ?re2
          case he2 =>
            intro wS hSw
            (try dsimp only at hSw)
            go_simp
            try with_reducible rfl
          case re2 =>
          simp only [Act.put, List.setIfInBounds_toArray, List.set_cons_zero, List.set_cons_succ]
          refine wpAnyH_take (i := 3) (oi := { dst := some 36, op := Go.Op.move (Go.Operand.tmp 1), type := 2, pos := "l07_ivf.go:101", after := #[], guard := none }) (v := ?ve3) rfl (by kernel_rfl) (by kernel_rfl) (by kernel_rfl) (fun _ _ _ h => h) (Or.inl ⟨by rfl, ?he3⟩) hHeld ?re3
          case he3 =>
            intro wS hSw
            (try dsimp only at hSw)
            go_simp
            try with_reducible rfl
          case re3 =>
          simp only [Act.put, List.setIfInBounds_toArray, List.set_cons_zero, List.set_cons_succ]
          refine wpAnyH_take (i := 4) (oi := { dst := some 37, op := Go.Op.move (Go.Operand.tmp 2), type := 26, pos := "l07_ivf.go:101", after := #[], guard := none }) (v := ?ve4) rfl (by kernel_rfl) (by kernel_rfl) (by kernel_rfl) (fun _ _ _ h => h) (Or.inl ⟨by rfl, ?he4⟩) hHeld ?re4
          case he4 =>
            intro wS hSw
            (try dsimp only at hSw)
            go_simp
            try with_reducible rfl
          case re4 =>
          simp only [Act.put, List.setIfInBounds_toArray, List.set_cons_zero, List.set_cons_succ]
          refine wpAnyH_ready (rs := [5]) (by kernel_rfl) (by simp) ?_
          refine AllReadyH.cons (o := { dst := some 38, op := Go.Op.call { callee := Go.Callee.value (Go.Operand.func 42), args := #[Go.Operand.tmp 35, Go.Operand.tmp 36, Go.Operand.tmp 37, Go.Operand.const (Go.Value.bool true)], argTypes := #[57, 2, 26, 4] }, type := 57, pos := "l07_ivf.go:101", after := #[{ on := 2, ground := Go.Ground.data }, { on := 3, ground := Go.Ground.data }, { on := 4, ground := Go.Ground.data }], guard := none }) rfl (fun K hK => ?_) AllReadyH.nil
          go_simp
          go_at_call 42
          refine (unhide LS _ nb0).mono ?_
          rintro e w4 ⟨a8, d8, rfl, hO8, hb4⟩
          have nb2 := below_up (Nat.le_refl _) nb0 hb4
          try go_wp2_with fail
          refine hK.out _ _ (below_up hW1 hHeld hb4) (fun hHeld => ?_)
          clear hK K
          try simp only [Act.put, List.setIfInBounds_toArray, List.set_cons_zero, List.set_cons_succ]
          refine wpAnyH_ready (rs := [6]) (by kernel_rfl) (by simp) ?_
          refine AllReadyH.cons (o := { dst := some 39, op := Go.Op.call { callee := Go.Callee.value (Go.Operand.func 41), args := #[Go.Operand.tmp 34, Go.Operand.tmp 38], argTypes := #[28, 57] }, type := 31, pos := "l07_ivf.go:101", after := #[{ on := 1, ground := Go.Ground.data }, { on := 5, ground := Go.Ground.data }, { on := 5, ground := Go.Ground.chain }], guard := none }) rfl (fun K hK => ?_) AllReadyH.nil
          go_simp
          go_at_call 41
          refine (unhide LB _ _ _ hHeld hO8).mono ?_
          rintro e w5 ⟨a1, d1, a2, d2, rfl, hO5, hb5⟩
          have nb3 := below_up (Nat.le_refl _) nb2 hb5
          try go_wp2_with fail
          refine hK.out _ _ (below_up hW1 hHeld hb5) (fun hHeld => ?_)
          clear hK K
          try simp only [Act.put, List.setIfInBounds_toArray, List.set_cons_zero, List.set_cons_succ]
          refine wpAnyH_take (i := 7) (oi := { dst := some 40, op := Go.Op.build 33 #[(1, Go.Operand.tmp 39)], type := 33, pos := "l07_ivf.go:101", after := #[{ on := 6, ground := Go.Ground.data }], guard := none }) (v := ?ve7) rfl (by kernel_rfl) (by kernel_rfl) (by kernel_rfl) (fun _ _ _ h => h) (Or.inl ⟨by rfl, ?he7⟩) hHeld ?re7
          case he7 =>
            intro wS hSw
            (try dsimp only at hSw)
            go_simp
            try with_reducible rfl
          case re7 =>
          simp only [Act.put, List.setIfInBounds_toArray, List.set_cons_zero, List.set_cons_succ]
          refine wpAnyH_ready (rs := [8]) (by kernel_rfl) (by simp) ?_
          refine AllReadyH.cons (o := { dst := none, op := Go.Op.store 33 (Go.Operand.tmp 6) (Go.Operand.tmp 40), type := 0, pos := "l07_ivf.go:101", after := #[{ on := 7, ground := Go.Ground.data }, { on := 6, ground := Go.Ground.chain }, { on := 0, ground := Go.Ground.phase }, { on := 1, ground := Go.Ground.phase }, { on := 2, ground := Go.Ground.phase }, { on := 3, ground := Go.Ground.phase }, { on := 4, ground := Go.Ground.phase }, { on := 5, ground := Go.Ground.phase }, { on := 6, ground := Go.Ground.phase }, { on := 7, ground := Go.Ground.phase }], guard := none }) rfl (fun K hK => ?_) AllReadyH.nil
          have bR := (unhide HR).keep nb3
          have z0 : w5.cell? ⟨w.heap.size + 1, 0, none⟩ = some (.int .i64 0) := bR.at 0 _ rfl
          have z1 : w5.cell? ⟨w.heap.size + 1, 1, none⟩ = some (.slice none 0 0) := bR.at 1 _ rfl
          have z2 : w5.cell? ⟨w.heap.size + 1, 2, none⟩ = some (.slice none 0 0) := bR.at 2 _ rfl
          have f0 := bR.soft 0
          have f1 := bR.soft 1
          have f2 := bR.soft 2
          have l0 := bR.lt
          go_simp
          refine hK.out _ _ (((hHeld.setCell (by simp) _).setCell (by simp) _).setCell (by simp) _) (fun hHeld => ?_)
          clear hK K
          try simp only [Act.put, List.setIfInBounds_toArray, List.set_cons_zero, List.set_cons_succ]
          refine wpAnyH_done (by kernel_rfl) ?_ _
          refine NoPanic.normal ?_
          have hz9 : w1.heap.size ≤ w4.heap.size := nb2.size
          have hz1 := (unhide HR).lt
          have HB9 := hide ((unhide HB).trans (hHeld.mono (Nat.le_succ _)))
          clear hHeld
          go_wp2_with fail
          refine bodyPost_ret (v := .agg #[.int .i64 0, .slice a1 y9.centers.length d1, .slice a2 y9.lists.length d2]) (by simp [results, Tryz.results8, go_sem, z0, z1, z2]) rfl ?_
          have hE : Ext (fun c => c = w.heap.size + 1) w5 (((w5.setCell ⟨w.heap.size + 1, 0, none⟩ (.int .i64 0)).setCell ⟨w.heap.size + 1, 1, none⟩ (.slice a1 y9.centers.length d1)).setCell ⟨w.heap.size + 1, 2, none⟩ (.slice a2 y9.lists.length d2)) := (((Ext.refl (fun c => c = w.heap.size + 1) _).setCell ⟨w.heap.size + 1, 0, none⟩ _ rfl).setCell ⟨w.heap.size + 1, 1, none⟩ _ rfl).setCell ⟨w.heap.size + 1, 2, none⟩ _ rfl
          rw [unhide HG]
          exact ⟨[.int .i64 0, .slice a1 y9.centers.length d1, .slice a2 y9.lists.length d2], rfl, read_ivfR (by decide) ((hO5.ext hE (fun c h1 _ h3 => by omega)).reads), unhide HB9⟩
    · have HG : Hid (addIvfR x id vec = ⟨vecFault vec, emptyI⟩) := by
        show addIvfR x id vec = _
        rw [unhide HG0, if_neg hvf]
      have hd : (vecFault vec != 0) = true := by simpa using hvf
      clear hvf HG0 HV
      go_wp2_with fail
      refine bodyPost_ret (v := .agg #[.int .i64 (vecFault vec), .slice none 0 0, .slice none 0 0]) (by simp [results, Tryz.results8, go_sem, z0, z1, z2]) rfl ?_
      rw [unhide HG]
      exact ⟨[.int .i64 (vecFault vec), .slice none 0 0, .slice none 0 0], rfl, read_ivfCode (vcode_wf vec), (((unhide HB).setCell (by simp) _).setCell (by simp) _).setCell (by simp) _⟩
  · have HG : Hid (addIvfR x id vec = ⟨askedI x id, emptyI⟩) := if_neg hf
    have hd : (askedI x id != 0) = true := by simpa using hf
    clear hf HA HV
    go_wp2_with fail
    refine bodyPost_ret (v := .agg #[.int .i64 (askedI x id), .slice none 0 0, .slice none 0 0]) (by simp [results, Tryz.results8, go_sem, z0, z1, z2]) rfl ?_
    rw [unhide HG]
    exact ⟨[.int .i64 (askedI x id), .slice none 0 0, .slice none 0 0], rfl, read_ivfCode (askedI_wf x id), (((unhide HB).setCell (by simp) _).setCell (by simp) _).setCell (by simp) _⟩

end Go.Proofs.YtfgadegpdknocaaGreat

namespace Go.Proofs.YtfgadegpdknocaaGreat
open Go.RowKit

theorem cnt_filter (f : DItem → Bool) (xs : List DItem) : cntAll Lay.tItem.cnt (xs.filter f) ≤ cntAll Lay.tItem.cnt xs := by
  induction xs with
  | nil => exact Nat.le_refl _
  | cons x xs ih =>
    rw [List.filter_cons]
    split
    · simp only [cntAll]; omega
    · simp only [cntAll]; omega
theorem cnt_le {α : Type} (g : α → Nat) (m : Nat) (ls : List α) (h : ∀ l ∈ ls, g l ≤ m) : cntAll g ls ≤ m * ls.length := by
  induction ls with
  | nil => exact Nat.zero_le _
  | cons l ls ih =>
    have h1 := h l (by simp)
    have h2 := ih fun l hl => h l (by simp [hl])
    simp only [cntAll, List.length_cons, Nat.mul_add]
    omega
theorem ivf_few {cs : List DCenter} {xs : List DItem} (hc : centersFault cs = 0) (hx : Right xs) : Lay.tIvf.vcnt (buildI cs xs) ≤ 100000 := by
  have e : Lay.tIvf.vcnt (buildI cs xs) = cntAll Lay.tCenter.cnt cs + cntAll Lay.tIvfList.cnt (buildI cs xs).lists := rfl
  have h6 := (centersFault_zero hc).1.2
  have h1 := cnt_le Lay.tCenter.cnt 3 cs fun c hcm => by
    have hl := (vecFault_zero ((centersFault_zero hc).2 c hcm)).1
    have e1 : Lay.tCenter.cnt c = cntAll Lay.int.cnt c.vec := rfl
    rw [e1, ← hl]
    have := cnt_le Lay.int.cnt 1 c.vec fun _ _ => Nat.le_refl 1
    omega
  have h2 := cnt_le Lay.tIvfList.cnt 1000 (buildI cs xs).lists fun l hl => by
    obtain ⟨i, hi, rfl⟩ := List.mem_map.1 hl
    have e2 : Lay.tIvfList.cnt ⟨mineI cs xs i⟩ = cntAll Lay.tItem.cnt (mineI cs xs i) := rfl
    rw [e2]
    exact Nat.le_trans (cnt_filter _ xs) (right_few hx)
  rw [buildI_len] at h2
  rw [e]
  omega
theorem build_few (cs : List DCenter) (xs : List DItem) : Lay.tIvfResult.vcnt (buildIvfR cs xs) ≤ 100000000 := by
  rw [vcnt_IvfResult]
  unfold buildIvfR
  split
  · rename_i hf
    exact Nat.le_trans (ivf_few (askFault_zero hf).1 (askFault_zero hf).2) (by decide)
  · exact Nat.zero_le _

end Go.Proofs.YtfgadegpdknocaaGreat

namespace Go.Proofs.YtfgadegpdknocaaGreat
open Go.RowKit

theorem addIvf_few (x : DIvf) (id : Int) (vec : List Int) : Lay.tIvfResult.vcnt (addIvfR x id vec) ≤ 100000000 := by
  rw [vcnt_IvfResult]
  unfold addIvfR
  split
  · rename_i hf
    obtain ⟨h1, h2⟩ := askedI_zero hf
    split
    · rename_i hv
      split
      · exact Nat.zero_le _
      · rename_i hr
        have hroom : hasI (allIs x.lists) id = true ∨ (allIs x.lists).length < 30 := by
          cases hh : hasI (allIs x.lists) id with
          | true => exact Or.inl rfl
          | false => exact Or.inr (by have : ¬ 30 ≤ (allIs x.lists).length := fun h => hr ⟨h, hh⟩; omega)
        exact Nat.le_trans (ivf_few (ivfFault_zero h1).1 (right_put (all_right h1) h2 hv hroom)) (by decide)
    · exact Nat.zero_le _
  · exact Nat.zero_le _
theorem lawAddIvf (cs : List Value) (x : DIvf) (id : Int) (vv : Value) (vec : List Int) (w : World) (h : Lay.tIvf.Reads w cs x) (hw : (Lit.int .i64 id).wf = true) (hv : (Lay.sl Lay.int).Reads w [vv] vec) :
    Calls Tryz.prog 3 #[.agg cs.toArray, .int .i64 id, vv] w fun e w' => e = .returned (.bool true) ∧ Below w.heap.size w w' := by
  by_cases h2 : vec.length ≤ 1048576
  · have hz : (Lay.sl Lay.int).sz vec ≤ 1048576 := by rw [sz_ints]; exact h2
    by_cases hn : Lay.tIvf.sz x ≤ 1048576
    · exact lawx_AddIvf cs x id vv vec (addIvfR x id vec) w h hv hz hn (fun W a b ha hb => specAddIvf a x id b vec W ha hb) (fun W a b ha hb => implAddIvf a x id b vec W ha hw hb) (addIvf_few x id vec)
    · exact lawover_AddIvf cs x id vv vec w h hv hz (by omega)
  · obtain ⟨ao, cap, rfl⟩ := open_sl hv
    exact lawmany_AddIvf_2 _ _ ao vec.length cap w (by omega)

end Go.Proofs.YtfgadegpdknocaaGreat

namespace Go.Proofs.YtfgadegpdknocaaGreat
open Go.RowKit Go.ChangeShapes Go.WideShapes

/-- Whatever reads as data of the type t lies as A says. -/
def Opens {α : Type} (A : Lay α) (t : TypeId) : Prop :=
  ∀ {H : Type} (enc : TypeId × Value → H) (W : World) (base : Nat) (spare : Nat → Bool) (held : Bool) (fuel : Nat) (cs : List Value) (x : DataW H × List MemPlace), DataW.trod enc Tryz.prog W base spare held fuel t cs = some x → ∃ y, A.Reads W cs y

theorem reads_pair {α β : Type} {A : Lay α} {B : Lay β} {W : World} {c1 c2 : List Value} {x : α} {y : β} (h : A.Reads W c1 x) (k : B.Reads W c2 y) : (Lay.pair A B).Reads W (c1 ++ c2) (x, y) := by
  obtain ⟨b1, h⟩ := h
  obtain ⟨b2, k⟩ := k
  exact ⟨b1 ++ b2, c1, c2, b1, b2, rfl, rfl, h, k⟩

theorem opens_int {t : TypeId} (ht : Tryz.prog.underlying t = some (.int .i64)) : Opens Lay.int t := by
  intro H enc W base spare held fuel cs x h
  obtain ⟨n, rfl, -, hw⟩ := DataW.trod_int ht h
  exact ⟨n, [], rfl, hw, rfl⟩
theorem opens_bool {t : TypeId} (ht : Tryz.prog.underlying t = some .bool) : Opens Lay.bool t := by
  intro H enc W base spare held fuel cs x h
  obtain ⟨b, rfl, -⟩ := DataW.trod_bool ht h
  exact ⟨b, [], rfl, rfl⟩
theorem opens_str {t : TypeId} (ht : Tryz.prog.underlying t = some .string) : Opens Lay.str t := by
  intro H enc W base spare held fuel cs x h
  obtain ⟨s, rfl, -, -⟩ := DataW.trod_string ht h
  exact ⟨s, [], rfl, rfl⟩

theorem opens_sl {α : Type} {A : Lay α} {t e : TypeId} (ht : Tryz.prog.underlying t = some (.slice e)) (hn : Tryz.prog.cellsOf e = A.n) (h0 : 0 < A.n) (h : Opens A e) : Opens (Lay.sl A) t := by
  intro H enc W base spare held fuel cs x hx
  rcases Go.Deep.open_slice ht hx with ⟨rfl, -⟩ | ⟨a, len, cap, m, n, D, Pl, rfl, hb, hl, hm, hmm, -, hel⟩
  · exact ⟨[], [], none, 0, rfl, ⟨Nat.le_refl _, by simp⟩, Or.inl ⟨rfl, rfl⟩⟩
  · have hlm : len ≤ m := by rw [hmm]; split <;> omega
    rw [hn] at hel
    have each : ∀ i, i < len → ∃ q : List Value × α, (∀ j, j < A.n → W.cell? (a.add (i * A.n + j)) = q.1[j]?) ∧ q.1.length = A.n ∧ A.Reads W q.1 q.2 := by
      intro i hi
      obtain ⟨cs', h1, h2⟩ := hel i (by omega)
      obtain ⟨-, hlen, hc⟩ := World.cells?_some h1
      obtain ⟨y, hy⟩ := h enc W base spare held n cs' _ h2
      refine ⟨(cs', y), fun j hj => ?_, hlen, hy⟩
      have := hc j hj
      rw [Addr.add_add] at this
      exact this
    by_cases hp : 0 < len
    · obtain ⟨b, off, spot⟩ := a
      obtain ⟨q0, c0, l0, -⟩ := each 0 hp
      have hc0 := c0 0 h0
      have hs0 : ∃ v, W.cell? ((⟨b, off, spot⟩ : Addr).add (0 * A.n + 0)) = some v := ⟨_, hc0.trans (List.getElem?_eq_getElem (by omega))⟩
      obtain ⟨v0, hv0⟩ := hs0
      have hspot : spot = none := by simpa [Addr.add] using World.cell?_spot hv0
      subst hspot
      have hbl : b < W.heap.size := by
        have := World.block_lt_of_cell? _ _ hv0
        simpa [Addr.add] using this
      have pick : ∃ f : (i : Nat) → i < len → List Value × α, ∀ i (hi : i < len), (∀ j, j < A.n → W.cell? ((⟨b, off, none⟩ : Addr).add (i * A.n + j)) = (f i hi).1[j]?) ∧ (f i hi).1.length = A.n ∧ A.Reads W (f i hi).1 (f i hi).2 :=
        ⟨fun i hi => Classical.choose (each i hi), fun i hi => Classical.choose_spec (each i hi)⟩
      obtain ⟨f, hf⟩ := pick
      have pick2 : ∃ g : (i : Nat) → i < len → List Nat, ∀ i (hi : i < len), A.lies W (f i hi).1 (f i hi).2 (g i hi) :=
        ⟨fun i hi => Classical.choose (hf i hi).2.2, fun i hi => Classical.choose_spec (hf i hi).2.2⟩
      obtain ⟨g, hg⟩ := pick2
      refine ⟨(List.finRange len).map (fun i => (f i.1 i.2).2), b :: ((List.finRange len).map (fun i => g i.1 i.2)).flatten, some ⟨b, off, none⟩, cap, by simp, ⟨by simpa using hl, by simp; unfold maxLen at hm; omega⟩, Or.inr ⟨b, off, (List.finRange len).map (fun i => (f i.1 i.2).1), (List.finRange len).map (fun i => g i.1 i.2), rfl, hbl, rfl, by simp, by simp, fun j h1 h2 h3 => ?_⟩⟩
      have hj : j < len := by simpa using h1
      refine ⟨fun k hk => ?_, ?_⟩
      · have := (hf j hj).1 k hk
        rw [Addr.add_lit] at this
        simpa [Nat.add_assoc] using this
      · simpa using hg j hj
    · obtain rfl : len = 0 := by omega
      exact ⟨[], [], some a, cap, rfl, ⟨hl, by simp⟩, Or.inl ⟨rfl, rfl⟩⟩

theorem open_arg {α : Type} {A : Lay α} {t : TypeId} (O : Opens A t) {H : Type} {enc : TypeId × Value → H} {W : World} {base : Nat} {spare : Nat → Bool} {held : Bool} {a : Option Addr} {len cap : Nat} {d : DataW H} {p : List MemPlace}
    (h : DataW.Trod enc Tryz.prog W base spare held t (.slice a len cap) d p) : ∃ y, A.Reads W [.slice a len cap] y := by
  obtain ⟨fuel, hf⟩ := h
  exact O enc W base spare held fuel _ _ (by simpa [Value.cells] using hf)
theorem open_arg_st {α : Type} {A : Lay α} {t : TypeId} (O : Opens A t) {H : Type} {enc : TypeId × Value → H} {W : World} {base : Nat} {spare : Nat → Bool} {held : Bool} {cs : Array Value} {d : DataW H} {p : List MemPlace}
    (h : DataW.Trod enc Tryz.prog W base spare held t (.agg cs) d p) : ∃ y, A.Reads W cs.toList y := by
  obtain ⟨fuel, hf⟩ := h
  exact O enc W base spare held fuel _ _ (by simpa [Value.cells] using hf)

end Go.Proofs.YtfgadegpdknocaaGreat

namespace Go.Proofs.YtfgadegpdknocaaGreat
open Go.RowKit

set_option maxRecDepth 10000 in
theorem opens_Center : Opens Lay.tCenter 127 := by
  intro H enc W base spare held fuel cs x h
  obtain ⟨xs, n, _, _, hlen, hl, hfi⟩ := DataW.trod_struct Tryz.underlying127 h
  rw [show Tryz.prog.cellsOf 127 = 1 by kernel_rfl] at hlen
  match cs, hlen with
  | [c0], _ =>
  match xs, hl with
  | [y0], _ =>
  have z0 : Tryz.prog.cellsOf 26 = 1 := by kernel_rfl
  have f0 : DataW.trod enc Tryz.prog W base spare held n 26 (([c0].drop 0).take (Tryz.prog.cellsOf 26)) = some y0 := hfi 0 _ rfl
  rw [z0] at f0
  obtain ⟨d0, r0⟩ := (opens_sl Tryz.underlying26 (by kernel_rfl) (by decide) (opens_int Tryz.underlying2)) enc W base spare held n _ _ f0
  exact ⟨⟨d0⟩, r0⟩

end Go.Proofs.YtfgadegpdknocaaGreat

namespace Go.Proofs.YtfgadegpdknocaaGreat
open Go.RowKit

set_option maxRecDepth 10000 in
theorem opens_Item : Opens Lay.tItem 180 := by
  intro H enc W base spare held fuel cs x h
  obtain ⟨xs, n, _, _, hlen, hl, hfi⟩ := DataW.trod_struct Tryz.underlying180 h
  rw [show Tryz.prog.cellsOf 180 = 2 by kernel_rfl] at hlen
  match cs, hlen with
  | [c0, c1], _ =>
  match xs, hl with
  | [y0, y1], _ =>
  have z0 : Tryz.prog.cellsOf 2 = 1 := by kernel_rfl
  have z1 : Tryz.prog.cellsOf 26 = 1 := by kernel_rfl
  have f0 : DataW.trod enc Tryz.prog W base spare held n 2 (([c0, c1].drop 0).take (Tryz.prog.cellsOf 2)) = some y0 := hfi 0 _ rfl
  rw [z0] at f0
  obtain ⟨d0, r0⟩ := (opens_int Tryz.underlying2) enc W base spare held n _ _ f0
  have f1 : DataW.trod enc Tryz.prog W base spare held n 26 (([c0, c1].drop 1).take (Tryz.prog.cellsOf 26)) = some y1 := hfi 1 _ rfl
  rw [z1] at f1
  obtain ⟨d1, r1⟩ := (opens_sl Tryz.underlying26 (by kernel_rfl) (by decide) (opens_int Tryz.underlying2)) enc W base spare held n _ _ f1
  exact ⟨⟨d0, d1⟩, (reads_pair r0 r1)⟩

end Go.Proofs.YtfgadegpdknocaaGreat

namespace Go.Proofs.YtfgadegpdknocaaGreat
open Go.RowKit

set_option maxRecDepth 10000 in
theorem opens_IvfList : Opens Lay.tIvfList 131 := by
  intro H enc W base spare held fuel cs x h
  obtain ⟨xs, n, _, _, hlen, hl, hfi⟩ := DataW.trod_struct Tryz.underlying131 h
  rw [show Tryz.prog.cellsOf 131 = 1 by kernel_rfl] at hlen
  match cs, hlen with
  | [c0], _ =>
  match xs, hl with
  | [y0], _ =>
  have z0 : Tryz.prog.cellsOf 129 = 1 := by kernel_rfl
  have f0 : DataW.trod enc Tryz.prog W base spare held n 129 (([c0].drop 0).take (Tryz.prog.cellsOf 129)) = some y0 := hfi 0 _ rfl
  rw [z0] at f0
  obtain ⟨d0, r0⟩ := (opens_sl Tryz.underlying129 (by kernel_rfl) (by decide) opens_Item) enc W base spare held n _ _ f0
  exact ⟨⟨d0⟩, r0⟩

end Go.Proofs.YtfgadegpdknocaaGreat

namespace Go.Proofs.YtfgadegpdknocaaGreat
open Go.RowKit

set_option maxRecDepth 10000 in
theorem opens_Ivf : Opens Lay.tIvf 25 := by
  intro H enc W base spare held fuel cs x h
  obtain ⟨xs, n, _, _, hlen, hl, hfi⟩ := DataW.trod_struct Tryz.underlying25 h
  rw [show Tryz.prog.cellsOf 25 = 2 by kernel_rfl] at hlen
  match cs, hlen with
  | [c0, c1], _ =>
  match xs, hl with
  | [y0, y1], _ =>
  have z0 : Tryz.prog.cellsOf 22 = 1 := by kernel_rfl
  have z1 : Tryz.prog.cellsOf 23 = 1 := by kernel_rfl
  have f0 : DataW.trod enc Tryz.prog W base spare held n 22 (([c0, c1].drop 0).take (Tryz.prog.cellsOf 22)) = some y0 := hfi 0 _ rfl
  rw [z0] at f0
  obtain ⟨d0, r0⟩ := (opens_sl Tryz.underlying22 (by kernel_rfl) (by decide) opens_Center) enc W base spare held n _ _ f0
  have f1 : DataW.trod enc Tryz.prog W base spare held n 23 (([c0, c1].drop 1).take (Tryz.prog.cellsOf 23)) = some y1 := hfi 1 _ rfl
  rw [z1] at f1
  obtain ⟨d1, r1⟩ := (opens_sl Tryz.underlying23 (by kernel_rfl) (by decide) opens_IvfList) enc W base spare held n _ _ f1
  exact ⟨⟨d0, d1⟩, (reads_pair r0 r1)⟩

end Go.Proofs.YtfgadegpdknocaaGreat
