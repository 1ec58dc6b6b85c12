/-
  Texts of this proof in one: ToIvf, EqCenter, EqCenterS, EqIvfList, EqIvfListS, EqIvf, OwnIvf, OwnCenter, LayMark, MaCenterS, OwnIvfList, MaItemS, MaIvfListS.
  Their conditions stand in their theorems.
-/
import Derived.Test.YtfgadegpdknocaaGreatChecked
import Derived.Test.YtfgadegpdknocaaGreatIs01
import Derived.Test.YtfgadegpdknocaaGreatIs02
import Derived.Test.YtfgadegpdknocaaGreatIs03
import Derived.Deep.RegionHeld3

namespace Go.Proofs.YtfgadegpdknocaaGreat
open Go.RowKit

set_option maxRecDepth 10000 in
set_option maxHeartbeats 2000000 in
theorem to_Ivf (cs : List Value) (x : DIvf) (w : World) (h : Lay.tIvf.Reads w cs x) (hn : Lay.tIvf.sz x ≤ 1048576) :
    Calls Tryz.prog 9 #[.agg cs.toArray] w fun e w' => ∃ cs', e = .returned (.agg cs'.toArray) ∧ Lay.tIvf.OwnIn w' cs' x w.heap.size w'.heap.size ∧ Below w.heap.size w w' := by
  obtain ⟨a0, d0, a1, d1, rfl, R0, R1⟩ := open_Ivf h
  clear h
  rw [szsum_Ivf] at hn
  have HB0 : Below w.heap.size w (((w.alloc (.cells #[.slice a0 x.centers.length d0, .slice a1 x.lists.length d1] 25)).alloc (.cells #[.slice none 0 0, .slice none 0 0] 31)).alloc (.cells #[.slice none 0 0, .slice none 0 0] 31)) := (((Below.refl _ _).alloc (Nat.le_refl _) _).alloc (by simp) _).alloc (by simp; omega) _
  have bA : Box w.heap.size #[.slice a0 x.centers.length d0, .slice a1 x.lists.length d1] 25 (((w.alloc (.cells #[.slice a0 x.centers.length d0, .slice a1 x.lists.length d1] 25)).alloc (.cells #[.slice none 0 0, .slice none 0 0] 31)).alloc (.cells #[.slice none 0 0, .slice none 0 0] 31)) w.heap.size := ((newBox (Nat.le_refl _)).grow _).grow _
  have bR : Box w.heap.size #[.slice none 0 0, .slice none 0 0] 31 (((w.alloc (.cells #[.slice a0 x.centers.length d0, .slice a1 x.lists.length d1] 25)).alloc (.cells #[.slice none 0 0, .slice none 0 0] 31)).alloc (.cells #[.slice none 0 0, .slice none 0 0] 31)) (w.heap.size + 1) := (newBoxAt (by omega) (by simp)).grow _
  have bX : Box w.heap.size #[.slice none 0 0, .slice none 0 0] 31 (((w.alloc (.cells #[.slice a0 x.centers.length d0, .slice a1 x.lists.length d1] 25)).alloc (.cells #[.slice none 0 0, .slice none 0 0] 31)).alloc (.cells #[.slice none 0 0, .slice none 0 0] 31)) (w.heap.size + 2) := newBoxAt (by omega) (by simp)
  have hz0 : w.heap.size + 3 ≤ (((w.alloc (.cells #[.slice a0 x.centers.length d0, .slice a1 x.lists.length d1] 25)).alloc (.cells #[.slice none 0 0, .slice none 0 0] 31)).alloc (.cells #[.slice none 0 0, .slice none 0 0] 31)).heap.size := by simp
  go_enter Tryz.func9, Tryz.ntmps9
  go_wp2_with fail
  generalize ((w.alloc (.cells #[.slice a0 x.centers.length d0, .slice a1 x.lists.length d1] 25)).alloc (.cells #[.slice none 0 0, .slice none 0 0] 31)).alloc (.cells #[.slice none 0 0, .slice none 0 0] 31) = W0 at *
  replace R0 := R0.liesIn.later HB0
  replace R1 := R1.liesIn.later HB0
  refine (to_CenterS _ x.centers W0 R0.reads (by omega)).mono ?_
  rintro e w1 ⟨v0, rfl, O0, hb⟩
  have Z0 : W0.heap.size ≤ w1.heap.size := hb.size
  replace HB0 := HB0.trans (hb.mono HB0.size)
  replace bA := bA.keep hb
  replace bR := bR.keep hb
  replace bX := bX.keep hb
  replace R1 := R1.later hb
  clear hb R0
  obtain ⟨a0z, d0z, rfl⟩ := open_sl O0.reads
  have p1 := bA.at 1 _ rfl
  have q0 := bX.at 0 _ rfl
  have qf := bX.soft
  have ql := bX.lt
  have pl := bA.lt
  simp only [List.getElem_toArray, List.getElem_cons_zero, List.getElem_cons_succ] at p1 q0
  have hA := hide bA
  have hR := hide bR
  have hX := hide bX
  have hB := hide HB0
  clear bA bR bX HB0
  have hO0 := hide O0
  clear O0
  have hR1 := hide R1
  clear R1
  go_wp2_with fail
  clear p1 q0 qf ql pl
  have E : Ext (fun q => q = w.heap.size + 2) w1 (w1.setCell ⟨w.heap.size + 2, 0, none⟩ (.slice a0z x.centers.length d0z)) := ext_setL (Ext.refl _ _) (w.heap.size + 2) [(0, .slice a0z x.centers.length d0z)] rfl
  have bX : Box w.heap.size #[.slice a0z x.centers.length d0z, .slice none 0 0] 31 (w1.setCell ⟨w.heap.size + 2, 0, none⟩ (.slice a0z x.centers.length d0z)) (w.heap.size + 2) := (unhide hX).set 0 (.slice a0z x.centers.length d0z)
  have bA := (unhide hA).ext E (by omega)
  have bR := (unhide hR).ext E (by omega)
  have HB0 : Below w.heap.size w (w1.setCell ⟨w.heap.size + 2, 0, none⟩ (.slice a0z x.centers.length d0z)) := (unhide hB).trans (E.below (unhide hB).size (fun k h1 h2 => by omega))
  have O0 := (unhide hO0).ext E (fun k h1 h2 h3 => by omega)
  have R1 := (unhide hR1).ext E (fun k h1 h2 h3 => by omega)
  have Y0 : w1.heap.size ≤ (w1.setCell ⟨w.heap.size + 2, 0, none⟩ (.slice a0z x.centers.length d0z)).heap.size := E.size
  clear hA hR hX hB hO0 hR1 E
  generalize (w1.setCell ⟨w.heap.size + 2, 0, none⟩ (.slice a0z x.centers.length d0z)) = W1 at *
  refine (to_IvfListS _ x.lists W1 R1.reads (by omega)).mono ?_
  rintro e w2 ⟨v1, rfl, O1, hb⟩
  have Z1 : W1.heap.size ≤ w2.heap.size := hb.size
  replace HB0 := HB0.trans (hb.mono HB0.size)
  replace bA := bA.keep hb
  replace bR := bR.keep hb
  replace bX := bX.keep hb
  replace O0 := O0.later hb
  clear hb R1
  obtain ⟨a1z, d1z, rfl⟩ := open_sl O1.reads
  have q0 := bX.at 0 _ rfl
  have q1 := bX.at 1 _ rfl
  have qf := bX.soft
  have ql := bX.lt
  have pl := bA.lt
  have r0 := bR.at 0 _ rfl
  have r1 := bR.at 1 _ rfl
  have rf := bR.soft
  have rl := bR.lt
  simp only [List.getElem_toArray, List.getElem_cons_zero, List.getElem_cons_succ] at q0 q1 r0 r1
  have hA := hide bA
  have hR := hide bR
  have hX := hide bX
  have hB := hide HB0
  clear bA bR bX HB0
  have hO0 := hide O0
  clear O0
  have hO1 := hide O1
  clear O1
  go_wp2_with fail
  refine bodyPost_ret (v := .agg #[.slice a0z x.centers.length d0z, .slice a1z x.lists.length d1z]) (by simp [results, Tryz.results9, go_sem, r0, r1]) rfl ?_
  have E : Ext (fun q => q = w.heap.size + 2 ∨ q = w.heap.size + 1) w2 _ := ext_setL (ext_setL (Ext.refl _ _) (w.heap.size + 2) [(1, .slice a1z x.lists.length d1z)] (Or.inl rfl)) (w.heap.size + 1) [(0, .slice a0z x.centers.length d0z), (1, .slice a1z x.lists.length d1z)] (Or.inr rfl)
  have own : Lay.tIvf.OwnIn _ [.slice a0z x.centers.length d0z, .slice a1z x.lists.length d1z] x W0.heap.size w2.heap.size := (Lay.ownIn_pair ((unhide hO0).ext E (fun k h1 h2 h3 => by omega)) ((unhide hO1).ext E (fun k h1 h2 h3 => by omega)) (by omega) (by omega) (by omega))
  have hsz := E.size
  have told := Lay.toldOwn (w := w) own (by omega) (by omega) ((unhide hB).trans (E.below (unhide hB).size (fun k h1 h2 => by omega)))
  exact told

end Go.Proofs.YtfgadegpdknocaaGreat

namespace Go.Proofs.YtfgadegpdknocaaGreat
open Go.RowKit

set_option maxRecDepth 10000 in
set_option maxHeartbeats 1000000 in
theorem eq_Center (cs cs2 : List Value) (x : DCenter) (w : World) (h : Lay.tCenter.Reads w cs x) (h2 : Lay.tCenter.Reads w cs2 x) :
    Calls Tryz.prog 96 #[.agg cs.toArray, .agg cs2.toArray] w fun e w' => e = .returned (.bool true) ∧ Below w.heap.size w w' := by
  obtain ⟨a0, d0, rfl, R0⟩ := open_Center h
  obtain ⟨a0z, d0z, rfl, R0z⟩ := open_Center h2
  clear h h2
  have HB0 : Below w.heap.size w ((w.alloc (.cells #[.slice a0 x.vec.length d0] 134)).alloc (.cells #[.slice a0z x.vec.length d0z] 134)) := ((Below.refl _ _).alloc (Nat.le_refl _) _).alloc (by simp) _
  have bA : Box w.heap.size #[.slice a0 x.vec.length d0] 134 ((w.alloc (.cells #[.slice a0 x.vec.length d0] 134)).alloc (.cells #[.slice a0z x.vec.length d0z] 134)) w.heap.size := (newBox (Nat.le_refl _)).grow _
  have bC : Box w.heap.size #[.slice a0z x.vec.length d0z] 134 ((w.alloc (.cells #[.slice a0 x.vec.length d0] 134)).alloc (.cells #[.slice a0z x.vec.length d0z] 134)) (w.heap.size + 1) := newBoxAt (by omega) (by simp)
  go_enter Tryz.func96, Tryz.ntmps96
  go_wp2_with fail
  generalize (w.alloc (.cells #[.slice a0 x.vec.length d0] 134)).alloc (.cells #[.slice a0z x.vec.length d0z] 134) = W0 at *
  replace R0 := R0.later HB0
  replace R0z := R0z.later HB0
  refine (eq_Int64S _ _ x.vec _ R0 R0z).mono ?_
  rintro e w1 ⟨rfl, hb⟩
  replace bA := bA.keep hb
  replace bC := bC.keep hb
  replace HB0 := HB0.trans (hb.mono HB0.size)
  clear hb
  have HB := hide HB0
  have HA := hide bA
  have HC := hide bC
  clear HB0 bA bC
  go_wp2_with fail
  go_ret
  exact ⟨rfl, unhide HB⟩

end Go.Proofs.YtfgadegpdknocaaGreat

namespace Go.Proofs.YtfgadegpdknocaaGreat
open Go.RowKit

set_option maxRecDepth 100000 in
set_option maxHeartbeats 2000000 in
theorem eq_CenterS (v v2 : Value) (xs : List DCenter) (w : World) (h : (Lay.sl Lay.tCenter).Reads w [v] xs) (h2 : (Lay.sl Lay.tCenter).Reads w [v2] xs) :
    Calls Tryz.prog 51 #[v, v2] w fun e w' => e = .returned (.bool true) ∧ Below w.heap.size w w' := by
  have hbig := h.big
  obtain ⟨ao, cap, rfl⟩ := open_sl h
  obtain ⟨ao2, cap2, rfl⟩ := open_sl h2
  by_cases hp : 0 < xs.length
  · obtain ⟨b, off, rfl, hbl⟩ := Lay.sl_addr h hp
    obtain ⟨b2, off2, rfl, hbl2⟩ := Lay.sl_addr h2 hp
    have H := hide h
    have H2 := hide h2
    clear h h2
    go_enter Tryz.func51, Tryz.ntmps51
    go_wp2_with fail
    go_loopw [5] (fun i wr => ∃ k : Nat, k ≤ xs.length ∧ i = .int .i64 k ∧ Below w.heap.size w wr) (fun i _ => xs.length - (intOf i).toNat)
    case atStart => exact ⟨0, Nat.zero_le _, rfl, Below.refl _ _⟩
    case round =>
      obtain ⟨k, hk, rfl, hB⟩ := hrel
      by_cases hlt : k < xs.length
      · obtain ⟨row, hc, hr⟩ := Lay.row_at (unhide H) hlt
        obtain ⟨rowz, hcz, hrz⟩ := Lay.row_at (unhide H2) hlt
        have hr2 := hr
        obtain ⟨a0, d0, rfl, -⟩ := open_Center hr2
        have hrz2 := hrz
        obtain ⟨a0z, d0z, rfl, -⟩ := open_Center hrz2
        have c0 : w.cell? ⟨b, off + k, none⟩ = some (.slice a0 (xs[k]).vec.length d0) := ((Below.refl w.heap.size w).cell (p := ⟨b, off + k, none⟩) hbl).trans (by have q1 : w.cell? ⟨b, off + k * 1 + 0, none⟩ = some (.slice a0 (xs[k]).vec.length d0) := hc 0 (by decide); rw [Nat.mul_one, Nat.add_zero] at q1; exact q1)
        have c0z : w.cell? ⟨b2, off2 + k, none⟩ = some (.slice a0z (xs[k]).vec.length d0z) := ((Below.refl w.heap.size w).cell (p := ⟨b2, off2 + k, none⟩) hbl2).trans (by have q1 : w.cell? ⟨b2, off2 + k * 1 + 0, none⟩ = some (.slice a0z (xs[k]).vec.length d0z) := hcz 0 (by decide); rw [Nat.mul_one, Nat.add_zero] at q1; exact q1)
        clear hc hcz
        have HR := hide hr
        have HRZ := hide hrz
        clear hr hrz
        have HB := hide hB
        clear hB
        generalize hxk : xs[k] = x at *
        clear hxk
        have i1 : (0 : Int) ≤ (k : Int) := by omega
        have i2 : (k : Int) < (xs.length : Int) := by omega
        go_wp2_with fail
        refine wp_region_noPanic ?_
        refine wp_region_held_drew (S := fun w' => Below w.heap.size w w') (by kernel_rfl) (unhide HB).drew (fun hHeld => ?_)
        generalize wr.drew = wD at hHeld ⊢
        refine wpAnyH_take (i := 0) (oi := { dst := some 17, op := Go.Op.move (Go.Operand.tmp 0), type := 28, pos := "exact.go:660", after := #[], guard := none }) (v := ?v0) rfl (by kernel_rfl) (by kernel_rfl) (by kernel_rfl) (fun _ _ _ h => h) (Or.inl ⟨by rfl, ?h0⟩) hHeld ?r0
        case h0 =>
          intro wS hSw
          (try dsimp only at hSw)
          go_simp
          try with_reducible rfl
        case r0 =>
        simp only [Act.put, List.setIfInBounds_toArray, List.set_cons_zero, List.set_cons_succ]
        refine wpAnyH_take (i := 1) (oi := { dst := some 18, op := Go.Op.move (Go.Operand.tmp 5), type := 3, pos := "exact.go:660", after := #[], guard := none }) (v := ?v1) rfl (by kernel_rfl) (by kernel_rfl) (by kernel_rfl) (fun _ _ _ h => h) (Or.inl ⟨by rfl, ?h1⟩) hHeld ?r1
        case h1 =>
          intro wS hSw
          (try dsimp only at hSw)
          go_simp
          try with_reducible rfl
        case r1 =>
        simp only [Act.put, List.setIfInBounds_toArray, List.set_cons_zero, List.set_cons_succ]
        refine wpAnyH_take (i := 2) (oi := { dst := some 19, op := Go.Op.indexAddr 28 (Go.Operand.tmp 17) (Go.Operand.tmp 18), type := 0, pos := "exact.go:660", after := #[{ on := 0, ground := Go.Ground.data }, { on := 1, ground := Go.Ground.data }], guard := none }) (v := ?v2) rfl (by kernel_rfl) (by kernel_rfl) (by kernel_rfl) (fun _ _ _ h => h) (Or.inl ⟨by rfl, ?h2⟩) hHeld ?r2
        case h2 =>
          intro wS hSw
          (try dsimp only at hSw)
          go_simp
          try with_reducible rfl
        case r2 =>
        simp only [Act.put, List.setIfInBounds_toArray, List.set_cons_zero, List.set_cons_succ]
        refine wpAnyH_take (i := 3) (oi := { dst := some 20, op := Go.Op.load 134 (Go.Operand.tmp 19), type := 134, pos := "exact.go:660", after := #[{ on := 2, ground := Go.Ground.data }], guard := none }) (v := ?v3) rfl (by kernel_rfl) (by kernel_rfl) (by kernel_rfl) (fun _ _ _ h => h) (Or.inl ⟨by rfl, ?h3⟩) hHeld ?r3
        case h3 =>
          intro wS hSw
          have y0 := (hSw.cell (p := ⟨b, off + k, none⟩) hbl).trans c0
          clear hSw
          (try dsimp only at hSw)
          go_simp
          try with_reducible rfl
        case r3 =>
        simp only [Act.put, List.setIfInBounds_toArray, List.set_cons_zero, List.set_cons_succ]
        refine wpAnyH_take (i := 4) (oi := { dst := some 21, op := Go.Op.move (Go.Operand.tmp 1), type := 28, pos := "exact.go:660", after := #[], guard := none }) (v := ?v4) rfl (by kernel_rfl) (by kernel_rfl) (by kernel_rfl) (fun _ _ _ h => h) (Or.inl ⟨by rfl, ?h4⟩) hHeld ?r4
        case h4 =>
          intro wS hSw
          (try dsimp only at hSw)
          go_simp
          try with_reducible rfl
        case r4 =>
        simp only [Act.put, List.setIfInBounds_toArray, List.set_cons_zero, List.set_cons_succ]
        refine wpAnyH_take (i := 5) (oi := { dst := some 22, op := Go.Op.move (Go.Operand.tmp 5), type := 3, pos := "exact.go:660", after := #[], guard := none }) (v := ?v5) rfl (by kernel_rfl) (by kernel_rfl) (by kernel_rfl) (fun _ _ _ h => h) (Or.inl ⟨by rfl, ?h5⟩) hHeld ?r5
        case h5 =>
          intro wS hSw
          (try dsimp only at hSw)
          go_simp
          try with_reducible rfl
        case r5 =>
        simp only [Act.put, List.setIfInBounds_toArray, List.set_cons_zero, List.set_cons_succ]
        refine wpAnyH_take (i := 6) (oi := { dst := some 23, op := Go.Op.indexAddr 28 (Go.Operand.tmp 21) (Go.Operand.tmp 22), type := 0, pos := "exact.go:660", after := #[{ on := 4, ground := Go.Ground.data }, { on := 5, ground := Go.Ground.data }], guard := none }) (v := ?v6) rfl (by kernel_rfl) (by kernel_rfl) (by kernel_rfl) (fun _ _ _ h => h) (Or.inl ⟨by rfl, ?h6⟩) hHeld ?r6
        case h6 =>
          intro wS hSw
          (try dsimp only at hSw)
          go_simp
          try with_reducible rfl
        case r6 =>
        simp only [Act.put, List.setIfInBounds_toArray, List.set_cons_zero, List.set_cons_succ]
        refine wpAnyH_take (i := 7) (oi := { dst := some 24, op := Go.Op.load 134 (Go.Operand.tmp 23), type := 134, pos := "exact.go:660", after := #[{ on := 6, ground := Go.Ground.data }], guard := none }) (v := ?v7) rfl (by kernel_rfl) (by kernel_rfl) (by kernel_rfl) (fun _ _ _ h => h) (Or.inl ⟨by rfl, ?h7⟩) hHeld ?r7
        case h7 =>
          intro wS hSw
          have y0z := (hSw.cell (p := ⟨b2, off2 + k, none⟩) hbl2).trans c0z
          clear hSw
          (try dsimp only at hSw)
          go_simp
          try with_reducible rfl
        case r7 =>
        simp only [Act.put, List.setIfInBounds_toArray, List.set_cons_zero, List.set_cons_succ]
        refine wpAnyH_ready (rs := [8]) (by kernel_rfl) (by simp) ?_
        refine AllReadyH.cons (o := { dst := some 25, op := Go.Op.call { callee := Go.Callee.value (Go.Operand.func 96), args := #[Go.Operand.tmp 20, Go.Operand.tmp 24], argTypes := #[134, 134] }, type := 4, pos := "exact.go:660", after := #[{ on := 3, ground := Go.Ground.data }, { on := 7, ground := Go.Ground.data }], guard := none }) rfl (fun K hK => ?_) AllReadyH.nil
        go_simp
        go_at_call 96
        refine (eq_Center _ _ x _ ((unhide HR).later hHeld) ((unhide HRZ).later hHeld)).mono ?_
        rintro e w3 ⟨rfl, hbw⟩
        try go_wp2_with fail
        refine hK.out _ _ (hHeld.trans (hbw.mono hHeld.size)) (fun hHeld => ?_)
        clear hK K
        try simp only [Act.put, List.setIfInBounds_toArray, List.set_cons_zero, List.set_cons_succ]
        refine wpAnyH_take (i := 9) (oi := { dst := some 26, op := Go.Op.unOp Go.UnOp.not 4 (Go.Operand.tmp 25), type := 4, pos := "exact.go:660", after := #[{ on := 8, ground := Go.Ground.data }], guard := none }) (v := ?v9) rfl (by kernel_rfl) (by kernel_rfl) (by kernel_rfl) (fun _ _ _ h => h) (Or.inl ⟨by rfl, ?h9⟩) hHeld ?r9
        case h9 =>
          intro wS hSw
          (try dsimp only at hSw)
          go_simp
          try with_reducible rfl
        case r9 =>
        simp only [Act.put, List.setIfInBounds_toArray, List.set_cons_zero, List.set_cons_succ]
        refine wpAnyH_done (by kernel_rfl) ?_ _
        refine NoPanic.normal ?_
        have HB3 := hide hHeld
        clear hHeld c0 c0z HB
        go_wp2_with fail
        go_roundw
        case rel => exact ⟨k + 1, by omega, by go_num, unhide HB3⟩
        case measure => simp [intOf]; omega
      · have HB := hide hB
        clear hB
        go_wp2_with fail
        go_ret
        exact ⟨rfl, unhide HB⟩
  · obtain rfl : xs = [] := List.eq_nil_of_length_eq_zero (by omega)
    clear h h2 hp
    simp only [List.length_nil] at *
    go_enter Tryz.func51, Tryz.ntmps51
    go_wp2_with fail
    refine wp_loop_rounds 1 ?_
    rw [rounds_succ]
    go_wp2_with fail
    go_ret
    exact ⟨rfl, Below.refl _ _⟩

end Go.Proofs.YtfgadegpdknocaaGreat

namespace Go.Proofs.YtfgadegpdknocaaGreat
open Go.RowKit

set_option maxRecDepth 10000 in
set_option maxHeartbeats 1000000 in
theorem eq_IvfList (cs cs2 : List Value) (x : DIvfList) (w : World) (h : Lay.tIvfList.Reads w cs x) (h2 : Lay.tIvfList.Reads w cs2 x) :
    Calls Tryz.prog 97 #[.agg cs.toArray, .agg cs2.toArray] w fun e w' => e = .returned (.bool true) ∧ Below w.heap.size w w' := by
  obtain ⟨a0, d0, rfl, R0⟩ := open_IvfList h
  obtain ⟨a0z, d0z, rfl, R0z⟩ := open_IvfList h2
  clear h h2
  have HB0 : Below w.heap.size w ((w.alloc (.cells #[.slice a0 x.items.length d0] 104)).alloc (.cells #[.slice a0z x.items.length d0z] 104)) := ((Below.refl _ _).alloc (Nat.le_refl _) _).alloc (by simp) _
  have bA : Box w.heap.size #[.slice a0 x.items.length d0] 104 ((w.alloc (.cells #[.slice a0 x.items.length d0] 104)).alloc (.cells #[.slice a0z x.items.length d0z] 104)) w.heap.size := (newBox (Nat.le_refl _)).grow _
  have bC : Box w.heap.size #[.slice a0z x.items.length d0z] 104 ((w.alloc (.cells #[.slice a0 x.items.length d0] 104)).alloc (.cells #[.slice a0z x.items.length d0z] 104)) (w.heap.size + 1) := newBoxAt (by omega) (by simp)
  go_enter Tryz.func97, Tryz.ntmps97
  go_wp2_with fail
  generalize (w.alloc (.cells #[.slice a0 x.items.length d0] 104)).alloc (.cells #[.slice a0z x.items.length d0z] 104) = W0 at *
  replace R0 := R0.later HB0
  replace R0z := R0z.later HB0
  refine (eq_ItemS _ _ x.items _ R0 R0z).mono ?_
  rintro e w1 ⟨rfl, hb⟩
  replace bA := bA.keep hb
  replace bC := bC.keep hb
  replace HB0 := HB0.trans (hb.mono HB0.size)
  clear hb
  have HB := hide HB0
  have HA := hide bA
  have HC := hide bC
  clear HB0 bA bC
  go_wp2_with fail
  go_ret
  exact ⟨rfl, unhide HB⟩

end Go.Proofs.YtfgadegpdknocaaGreat

namespace Go.Proofs.YtfgadegpdknocaaGreat
open Go.RowKit

set_option maxRecDepth 100000 in
set_option maxHeartbeats 2000000 in
theorem eq_IvfListS (v v2 : Value) (xs : List DIvfList) (w : World) (h : (Lay.sl Lay.tIvfList).Reads w [v] xs) (h2 : (Lay.sl Lay.tIvfList).Reads w [v2] xs) :
    Calls Tryz.prog 52 #[v, v2] w fun e w' => e = .returned (.bool true) ∧ Below w.heap.size w w' := by
  have hbig := h.big
  obtain ⟨ao, cap, rfl⟩ := open_sl h
  obtain ⟨ao2, cap2, rfl⟩ := open_sl h2
  by_cases hp : 0 < xs.length
  · obtain ⟨b, off, rfl, hbl⟩ := Lay.sl_addr h hp
    obtain ⟨b2, off2, rfl, hbl2⟩ := Lay.sl_addr h2 hp
    have H := hide h
    have H2 := hide h2
    clear h h2
    go_enter Tryz.func52, Tryz.ntmps52
    go_wp2_with fail
    go_loopw [5] (fun i wr => ∃ k : Nat, k ≤ xs.length ∧ i = .int .i64 k ∧ Below w.heap.size w wr) (fun i _ => xs.length - (intOf i).toNat)
    case atStart => exact ⟨0, Nat.zero_le _, rfl, Below.refl _ _⟩
    case round =>
      obtain ⟨k, hk, rfl, hB⟩ := hrel
      by_cases hlt : k < xs.length
      · obtain ⟨row, hc, hr⟩ := Lay.row_at (unhide H) hlt
        obtain ⟨rowz, hcz, hrz⟩ := Lay.row_at (unhide H2) hlt
        have hr2 := hr
        obtain ⟨a0, d0, rfl, -⟩ := open_IvfList hr2
        have hrz2 := hrz
        obtain ⟨a0z, d0z, rfl, -⟩ := open_IvfList hrz2
        have c0 : w.cell? ⟨b, off + k, none⟩ = some (.slice a0 (xs[k]).items.length d0) := ((Below.refl w.heap.size w).cell (p := ⟨b, off + k, none⟩) hbl).trans (by have q1 : w.cell? ⟨b, off + k * 1 + 0, none⟩ = some (.slice a0 (xs[k]).items.length d0) := hc 0 (by decide); rw [Nat.mul_one, Nat.add_zero] at q1; exact q1)
        have c0z : w.cell? ⟨b2, off2 + k, none⟩ = some (.slice a0z (xs[k]).items.length d0z) := ((Below.refl w.heap.size w).cell (p := ⟨b2, off2 + k, none⟩) hbl2).trans (by have q1 : w.cell? ⟨b2, off2 + k * 1 + 0, none⟩ = some (.slice a0z (xs[k]).items.length d0z) := hcz 0 (by decide); rw [Nat.mul_one, Nat.add_zero] at q1; exact q1)
        clear hc hcz
        have HR := hide hr
        have HRZ := hide hrz
        clear hr hrz
        have HB := hide hB
        clear hB
        generalize hxk : xs[k] = x at *
        clear hxk
        have i1 : (0 : Int) ≤ (k : Int) := by omega
        have i2 : (k : Int) < (xs.length : Int) := by omega
        go_wp2_with fail
        refine wp_region_noPanic ?_
        refine wp_region_held_drew (S := fun w' => Below w.heap.size w w') (by kernel_rfl) (unhide HB).drew (fun hHeld => ?_)
        generalize wr.drew = wD at hHeld ⊢
        refine wpAnyH_take (i := 0) (oi := { dst := some 17, op := Go.Op.move (Go.Operand.tmp 0), type := 29, pos := "exact.go:774", after := #[], guard := none }) (v := ?v0) rfl (by kernel_rfl) (by kernel_rfl) (by kernel_rfl) (fun _ _ _ h => h) (Or.inl ⟨by rfl, ?h0⟩) hHeld ?r0
        case h0 =>
          intro wS hSw
          (try dsimp only at hSw)
          go_simp
          try with_reducible rfl
        case r0 =>
        simp only [Act.put, List.setIfInBounds_toArray, List.set_cons_zero, List.set_cons_succ]
        refine wpAnyH_take (i := 1) (oi := { dst := some 18, op := Go.Op.move (Go.Operand.tmp 5), type := 3, pos := "exact.go:774", after := #[], guard := none }) (v := ?v1) rfl (by kernel_rfl) (by kernel_rfl) (by kernel_rfl) (fun _ _ _ h => h) (Or.inl ⟨by rfl, ?h1⟩) hHeld ?r1
        case h1 =>
          intro wS hSw
          (try dsimp only at hSw)
          go_simp
          try with_reducible rfl
        case r1 =>
        simp only [Act.put, List.setIfInBounds_toArray, List.set_cons_zero, List.set_cons_succ]
        refine wpAnyH_take (i := 2) (oi := { dst := some 19, op := Go.Op.indexAddr 29 (Go.Operand.tmp 17) (Go.Operand.tmp 18), type := 0, pos := "exact.go:774", after := #[{ on := 0, ground := Go.Ground.data }, { on := 1, ground := Go.Ground.data }], guard := none }) (v := ?v2) rfl (by kernel_rfl) (by kernel_rfl) (by kernel_rfl) (fun _ _ _ h => h) (Or.inl ⟨by rfl, ?h2⟩) hHeld ?r2
        case h2 =>
          intro wS hSw
          (try dsimp only at hSw)
          go_simp
          try with_reducible rfl
        case r2 =>
        simp only [Act.put, List.setIfInBounds_toArray, List.set_cons_zero, List.set_cons_succ]
        refine wpAnyH_take (i := 3) (oi := { dst := some 20, op := Go.Op.load 104 (Go.Operand.tmp 19), type := 104, pos := "exact.go:774", after := #[{ on := 2, ground := Go.Ground.data }], guard := none }) (v := ?v3) rfl (by kernel_rfl) (by kernel_rfl) (by kernel_rfl) (fun _ _ _ h => h) (Or.inl ⟨by rfl, ?h3⟩) hHeld ?r3
        case h3 =>
          intro wS hSw
          have y0 := (hSw.cell (p := ⟨b, off + k, none⟩) hbl).trans c0
          clear hSw
          (try dsimp only at hSw)
          go_simp
          try with_reducible rfl
        case r3 =>
        simp only [Act.put, List.setIfInBounds_toArray, List.set_cons_zero, List.set_cons_succ]
        refine wpAnyH_take (i := 4) (oi := { dst := some 21, op := Go.Op.move (Go.Operand.tmp 1), type := 29, pos := "exact.go:774", after := #[], guard := none }) (v := ?v4) rfl (by kernel_rfl) (by kernel_rfl) (by kernel_rfl) (fun _ _ _ h => h) (Or.inl ⟨by rfl, ?h4⟩) hHeld ?r4
        case h4 =>
          intro wS hSw
          (try dsimp only at hSw)
          go_simp
          try with_reducible rfl
        case r4 =>
        simp only [Act.put, List.setIfInBounds_toArray, List.set_cons_zero, List.set_cons_succ]
        refine wpAnyH_take (i := 5) (oi := { dst := some 22, op := Go.Op.move (Go.Operand.tmp 5), type := 3, pos := "exact.go:774", after := #[], guard := none }) (v := ?v5) rfl (by kernel_rfl) (by kernel_rfl) (by kernel_rfl) (fun _ _ _ h => h) (Or.inl ⟨by rfl, ?h5⟩) hHeld ?r5
        case h5 =>
          intro wS hSw
          (try dsimp only at hSw)
          go_simp
          try with_reducible rfl
        case r5 =>
        simp only [Act.put, List.setIfInBounds_toArray, List.set_cons_zero, List.set_cons_succ]
        refine wpAnyH_take (i := 6) (oi := { dst := some 23, op := Go.Op.indexAddr 29 (Go.Operand.tmp 21) (Go.Operand.tmp 22), type := 0, pos := "exact.go:774", after := #[{ on := 4, ground := Go.Ground.data }, { on := 5, ground := Go.Ground.data }], guard := none }) (v := ?v6) rfl (by kernel_rfl) (by kernel_rfl) (by kernel_rfl) (fun _ _ _ h => h) (Or.inl ⟨by rfl, ?h6⟩) hHeld ?r6
        case h6 =>
          intro wS hSw
          (try dsimp only at hSw)
          go_simp
          try with_reducible rfl
        case r6 =>
        simp only [Act.put, List.setIfInBounds_toArray, List.set_cons_zero, List.set_cons_succ]
        refine wpAnyH_take (i := 7) (oi := { dst := some 24, op := Go.Op.load 104 (Go.Operand.tmp 23), type := 104, pos := "exact.go:774", after := #[{ on := 6, ground := Go.Ground.data }], guard := none }) (v := ?v7) rfl (by kernel_rfl) (by kernel_rfl) (by kernel_rfl) (fun _ _ _ h => h) (Or.inl ⟨by rfl, ?h7⟩) hHeld ?r7
        case h7 =>
          intro wS hSw
          have y0z := (hSw.cell (p := ⟨b2, off2 + k, none⟩) hbl2).trans c0z
          clear hSw
          (try dsimp only at hSw)
          go_simp
          try with_reducible rfl
        case r7 =>
        simp only [Act.put, List.setIfInBounds_toArray, List.set_cons_zero, List.set_cons_succ]
        refine wpAnyH_ready (rs := [8]) (by kernel_rfl) (by simp) ?_
        refine AllReadyH.cons (o := { dst := some 25, op := Go.Op.call { callee := Go.Callee.value (Go.Operand.func 97), args := #[Go.Operand.tmp 20, Go.Operand.tmp 24], argTypes := #[104, 104] }, type := 4, pos := "exact.go:774", after := #[{ on := 3, ground := Go.Ground.data }, { on := 7, ground := Go.Ground.data }], guard := none }) rfl (fun K hK => ?_) AllReadyH.nil
        go_simp
        go_at_call 97
        refine (eq_IvfList _ _ x _ ((unhide HR).later hHeld) ((unhide HRZ).later hHeld)).mono ?_
        rintro e w3 ⟨rfl, hbw⟩
        try go_wp2_with fail
        refine hK.out _ _ (hHeld.trans (hbw.mono hHeld.size)) (fun hHeld => ?_)
        clear hK K
        try simp only [Act.put, List.setIfInBounds_toArray, List.set_cons_zero, List.set_cons_succ]
        refine wpAnyH_take (i := 9) (oi := { dst := some 26, op := Go.Op.unOp Go.UnOp.not 4 (Go.Operand.tmp 25), type := 4, pos := "exact.go:774", after := #[{ on := 8, ground := Go.Ground.data }], guard := none }) (v := ?v9) rfl (by kernel_rfl) (by kernel_rfl) (by kernel_rfl) (fun _ _ _ h => h) (Or.inl ⟨by rfl, ?h9⟩) hHeld ?r9
        case h9 =>
          intro wS hSw
          (try dsimp only at hSw)
          go_simp
          try with_reducible rfl
        case r9 =>
        simp only [Act.put, List.setIfInBounds_toArray, List.set_cons_zero, List.set_cons_succ]
        refine wpAnyH_done (by kernel_rfl) ?_ _
        refine NoPanic.normal ?_
        have HB3 := hide hHeld
        clear hHeld c0 c0z HB
        go_wp2_with fail
        go_roundw
        case rel => exact ⟨k + 1, by omega, by go_num, unhide HB3⟩
        case measure => simp [intOf]; omega
      · have HB := hide hB
        clear hB
        go_wp2_with fail
        go_ret
        exact ⟨rfl, unhide HB⟩
  · obtain rfl : xs = [] := List.eq_nil_of_length_eq_zero (by omega)
    clear h h2 hp
    simp only [List.length_nil] at *
    go_enter Tryz.func52, Tryz.ntmps52
    go_wp2_with fail
    refine wp_loop_rounds 1 ?_
    rw [rounds_succ]
    go_wp2_with fail
    go_ret
    exact ⟨rfl, Below.refl _ _⟩

end Go.Proofs.YtfgadegpdknocaaGreat

namespace Go.Proofs.YtfgadegpdknocaaGreat
open Go.RowKit

set_option maxRecDepth 10000 in
set_option maxHeartbeats 1000000 in
theorem eq_Ivf (cs cs2 : List Value) (x : DIvf) (w : World) (h : Lay.tIvf.Reads w cs x) (h2 : Lay.tIvf.Reads w cs2 x) :
    Calls Tryz.prog 13 #[.agg cs.toArray, .agg cs2.toArray] w fun e w' => e = .returned (.bool true) ∧ Below w.heap.size w w' := by
  obtain ⟨a0, d0, a1, d1, rfl, R0, R1⟩ := open_Ivf h
  obtain ⟨a0z, d0z, a1z, d1z, rfl, R0z, R1z⟩ := open_Ivf h2
  clear h h2
  have HB0 : Below w.heap.size w ((w.alloc (.cells #[.slice a0 x.centers.length d0, .slice a1 x.lists.length d1] 31)).alloc (.cells #[.slice a0z x.centers.length d0z, .slice a1z x.lists.length d1z] 31)) := ((Below.refl _ _).alloc (Nat.le_refl _) _).alloc (by simp) _
  have bA : Box w.heap.size #[.slice a0 x.centers.length d0, .slice a1 x.lists.length d1] 31 ((w.alloc (.cells #[.slice a0 x.centers.length d0, .slice a1 x.lists.length d1] 31)).alloc (.cells #[.slice a0z x.centers.length d0z, .slice a1z x.lists.length d1z] 31)) w.heap.size := (newBox (Nat.le_refl _)).grow _
  have bC : Box w.heap.size #[.slice a0z x.centers.length d0z, .slice a1z x.lists.length d1z] 31 ((w.alloc (.cells #[.slice a0 x.centers.length d0, .slice a1 x.lists.length d1] 31)).alloc (.cells #[.slice a0z x.centers.length d0z, .slice a1z x.lists.length d1z] 31)) (w.heap.size + 1) := newBoxAt (by omega) (by simp)
  go_enter Tryz.func13, Tryz.ntmps13
  go_wp2_with fail
  generalize (w.alloc (.cells #[.slice a0 x.centers.length d0, .slice a1 x.lists.length d1] 31)).alloc (.cells #[.slice a0z x.centers.length d0z, .slice a1z x.lists.length d1z] 31) = W0 at *
  replace R0 := R0.later HB0
  replace R0z := R0z.later HB0
  replace R1 := R1.later HB0
  replace R1z := R1z.later HB0
  refine (eq_CenterS _ _ x.centers _ R0 R0z).mono ?_
  rintro e w1 ⟨rfl, hb⟩
  replace bA := bA.keep hb
  replace bC := bC.keep hb
  replace HB0 := HB0.trans (hb.mono HB0.size)
  replace R1 := R1.later hb
  replace R1z := R1z.later hb
  have p1 := bA.at 1 _ rfl
  have q1 := bC.at 1 _ rfl
  clear hb
  have HB := hide HB0
  have HA := hide bA
  have HC := hide bC
  clear HB0 bA bC
  have S1 := hide R1
  have S1z := hide R1z
  clear R1 R1z
  go_wp2_with fail
  have HB0 := unhide HB
  have bA := unhide HA
  have bC := unhide HC
  clear HB HA HC
  clear p1 q1
  have R1 := unhide S1
  have R1z := unhide S1z
  clear S1 S1z
  refine (eq_IvfListS _ _ x.lists _ R1 R1z).mono ?_
  rintro e w2 ⟨rfl, hb⟩
  replace bA := bA.keep hb
  replace bC := bC.keep hb
  replace HB0 := HB0.trans (hb.mono HB0.size)
  clear hb
  have HB := hide HB0
  have HA := hide bA
  have HC := hide bC
  clear HB0 bA bC
  go_wp2_with fail
  go_ret
  exact ⟨rfl, unhide HB⟩

end Go.Proofs.YtfgadegpdknocaaGreat

namespace Go.Proofs.YtfgadegpdknocaaGreat
open Go.RowKit

theorem vcnt_Ivf (x : DIvf) : Lay.tIvf.vcnt x = (Lay.sl Lay.tCenter).vcnt x.centers + (Lay.sl Lay.tIvfList).vcnt x.lists := by
  show (Lay.sl Lay.tCenter).vcnt x.centers + ((Lay.sl Lay.tIvfList).vcnt x.lists) = (Lay.sl Lay.tCenter).vcnt x.centers + (Lay.sl Lay.tIvfList).vcnt x.lists
  omega
theorem mkv_Ivf (k : Int) (x : DIvf) : Lay.tIvf.mkv k x = ⟨(Lay.sl Lay.tCenter).mkv (k) x.centers, (Lay.sl Lay.tIvfList).mkv (k + ((Lay.sl Lay.tCenter).vcnt x.centers : Int)) x.lists⟩ := by
  simp [Lay.tIvf, Lay.via, Lay.pair]
theorem own_Ivf {w : World} {cs : List Value} {x : DIvf} {bl : List Nat} (h : Lay.tIvf.Own w cs x bl) : ∃ (a0 : Option Addr) (d0 : Nat) (a1 : Option Addr) (d1 : Nat) (g0 : List Nat) (g1 : List Nat), cs = [.slice a0 x.centers.length d0, .slice a1 x.lists.length d1] ∧ bl = g0 ++ g1 ∧ (Lay.sl Lay.tCenter).Own w [.slice a0 x.centers.length d0] x.centers g0 ∧ (Lay.sl Lay.tIvfList).Own w [.slice a1 x.lists.length d1] x.lists g1 := by
  obtain ⟨hl, hn, hf⟩ := h
  obtain ⟨a0, d0, b0, a1, d1, b1, rfl, hbl, l0, l1⟩ := lies_Ivf.1 hl
  rw [hbl] at hn hf
  simp only [List.nodup_append, List.mem_append] at hn hf
  exact ⟨a0, d0, a1, d1, b0, b1, rfl, hbl, ⟨l0, by simp_all, fun b hb => hf b (by simp_all)⟩, ⟨l1, by simp_all, fun b hb => hf b (by simp_all)⟩⟩
theorem mkOwn_Ivf {w : World} {x : DIvf} {c0 : List Value} {c1 : List Value} {g0 : List Nat} {g1 : List Nat} (O0 : (Lay.sl Lay.tCenter).Own w c0 x.centers g0) (O1 : (Lay.sl Lay.tIvfList).Own w c1 x.lists g1) (hn : (g0 ++ g1).Nodup) : Lay.tIvf.Own w (c0 ++ c1) x (g0 ++ g1) := by
  refine ⟨⟨c0, c1, g0, g1, rfl, by simp, O0.1, O1.1⟩, hn, ?_⟩
  intro b hb o
  simp only [List.mem_append] at hb
  rcases hb with hb | hb
  · exact O0.2.2 b hb o
  · exact O1.2.2 b hb o

end Go.Proofs.YtfgadegpdknocaaGreat

namespace Go.Proofs.YtfgadegpdknocaaGreat
open Go.RowKit

theorem vcnt_Center (x : DCenter) : Lay.tCenter.vcnt x = (Lay.sl Lay.int).vcnt x.vec := by
  show (Lay.sl Lay.int).vcnt x.vec = (Lay.sl Lay.int).vcnt x.vec
  omega
theorem mkv_Center (k : Int) (x : DCenter) : Lay.tCenter.mkv k x = ⟨(Lay.sl Lay.int).mkv (k) x.vec⟩ := by
  simp [Lay.tCenter, Lay.via]
theorem own_Center {w : World} {cs : List Value} {x : DCenter} {bl : List Nat} (h : Lay.tCenter.Own w cs x bl) : ∃ (a0 : Option Addr) (d0 : Nat) (g0 : List Nat), cs = [.slice a0 x.vec.length d0] ∧ bl = g0 ∧ (Lay.sl Lay.int).Own w [.slice a0 x.vec.length d0] x.vec g0 := by
  obtain ⟨hl, hn, hf⟩ := h
  obtain ⟨a0, d0, b0, rfl, hbl, l0⟩ := lies_Center.1 hl
  rw [hbl] at hn hf
  exact ⟨a0, d0, b0, rfl, hbl, ⟨l0, hn, hf⟩⟩
theorem mkOwn_Center {w : World} {x : DCenter} {c0 : List Value} {g0 : List Nat} (O0 : (Lay.sl Lay.int).Own w c0 x.vec g0) (hn : (g0).Nodup) : Lay.tCenter.Own w (c0) x (g0) := by
  refine ⟨O0.1, hn, ?_⟩
  intro b hb o
  exact O0.2.2 b hb o

end Go.Proofs.YtfgadegpdknocaaGreat

namespace Go.Proofs.YtfgadegpdknocaaGreat
open Go.RowKit

theorem cnt_ints (zs : List Int) : (Lay.sl Lay.int).cnt zs = zs.length := by
  show cntAll (fun _ => 1) zs = zs.length
  induction zs with
  | nil => rfl
  | cons z zs ih => simp [cntAll, ih]; omega
theorem vcnt_ints (zs : List Int) : (Lay.sl Lay.int).vcnt zs = zs.length := cnt_ints zs
theorem mkAll_len {α : Type} (cnt : α → Nat) (mk : Int → α → α) (k : Int) (xs : List α) : (mkAll cnt mk k xs).length = xs.length := by
  induction xs generalizing k with
  | nil => rfl
  | cons x xs ih => simp [mkAll, ih]
theorem mk_ints_at (k : Int) (zs : List Int) (j : Nat) (h : j < zs.length) : ((Lay.sl Lay.int).mkv k zs).getD j 0 = k + j := by
  show (mkAll (fun _ => 1) (fun k _ => k) k zs).getD j 0 = k + j
  induction zs generalizing k j with
  | nil => simp at h
  | cons z zs ih =>
    match j with
    | 0 => simp [mkAll]
    | j + 1 =>
      have := ih (k + 1) j (by simpa using h)
      simp only [mkAll, List.getD_cons_succ]
      rw [show ((1 : Nat) : Int) = 1 from rfl, this]
      omega
theorem mk_ints_len (k : Int) (zs : List Int) : ((Lay.sl Lay.int).mkv k zs).length = zs.length := mkAll_len _ _ _ _
theorem mk_ints_wf (k : Int) (zs : List Int) (hk : 0 ≤ k) (hk2 : k + zs.length ≤ 1000000000) : ∀ z ∈ (Lay.sl Lay.int).mkv k zs, (Lit.int .i64 z).wf = true := by
  intro z hz
  obtain ⟨j, hj, rfl⟩ := List.mem_iff_getElem.1 hz
  have hj' := hj
  rw [mk_ints_len] at hj'
  have := mk_ints_at k zs j hj'
  have e : ((Lay.sl Lay.int).mkv k zs)[j] = k + j := by simpa [List.getD, hj] using this
  rw [e]
  exact wf_of_bd (by omega)

set_option maxHeartbeats 400000 in
theorem markI_pos (b off cap : Nat) (zs : List Int) (k : Int) (w : World) (hk : 0 ≤ k) (hk2 : k + zs.length ≤ 1000000000) (hc : ∀ j, j < zs.length → w.cell? ⟨b, off + j, none⟩ = some (.int .i64 (zs.getD j 0)))
    (hf : ∀ o, w.frozen? ⟨b, o, none⟩ = false) :
    Calls Tryz.prog 16 #[.slice (some ⟨b, off, none⟩) zs.length cap, .int .i64 k] w fun e w' => e = .returned (.int .i64 (k + zs.length)) ∧
      (∀ j, j < zs.length → w'.cell? ⟨b, off + j, none⟩ = some (.int .i64 (k + j))) ∧ (∀ o, w'.frozen? ⟨b, o, none⟩ = false) ∧ (∀ o, (o < off ∨ off + zs.length ≤ o) → w'.cell? ⟨b, o, none⟩ = w.cell? ⟨b, o, none⟩) ∧ Ext (fun q => q = b) w w' := by
  go_enter Tryz.func16, Tryz.ntmps16
  go_wp2
  go_loopw [1, 5] (fun kk i wr => ∃ j : Nat, j ≤ zs.length ∧ i = .int .i64 j ∧ kk = .int .i64 (k + j) ∧ (∀ m, m < j → wr.cell? ⟨b, off + m, none⟩ = some (.int .i64 (k + m))) ∧ (∀ o, wr.frozen? ⟨b, o, none⟩ = false) ∧ (∀ o, (o < off ∨ off + j ≤ o) → wr.cell? ⟨b, o, none⟩ = w.cell? ⟨b, o, none⟩) ∧ Ext (fun q => q = b) w wr)
    (fun _ i _ => zs.length - (intOf i).toNat)
  case atStart => exact ⟨0, Nat.zero_le _, rfl, by simp, fun m hm => by omega, hf, fun _ _ => rfl, Ext.refl _ _⟩
  case round =>
    obtain ⟨j, hj, rfl, rfl, hm, hfz, ho, hx⟩ := hrel
    by_cases hlt : j < zs.length
    · have hcd : wr.cell? ⟨b, off + j, none⟩ = some (.int .i64 (zs.getD j 0)) := (ho (off + j) (by omega)).trans (hc j hlt)
      have hfj := hfz (off + j)
      have HM : Hid (∀ m, m < j + 1 → (wr.setCell ⟨b, off + j, none⟩ (.int .i64 (k + j))).cell? ⟨b, off + m, none⟩ = some (.int .i64 (k + m))) := by
        intro m hm1
        by_cases e : m = j
        · subst e
          exact World.cell?_setCell_same _ _ _ hcd
        · rw [World.cell?_setCell_other _ _ _ _ (fun q => by have := congrArg Addr.off q; simp only at this; omega)]
          exact hm m (by omega)
      have HF : Hid (∀ o, (wr.setCell ⟨b, off + j, none⟩ (.int .i64 (k + j))).frozen? ⟨b, o, none⟩ = false) := fun o => by simpa using hfz o
      have HO : Hid (∀ o, (o < off ∨ off + (j + 1) ≤ o) → (wr.setCell ⟨b, off + j, none⟩ (.int .i64 (k + j))).cell? ⟨b, o, none⟩ = w.cell? ⟨b, o, none⟩) := by
        intro o hoo
        rw [World.cell?_setCell_other _ _ _ _ (fun q => by have := congrArg Addr.off q; simp only at this; omega)]
        exact ho o (by omega)
      have HX := hide (hx.setCell ⟨b, off + j, none⟩ (.int .i64 (k + j)) rfl)
      clear hm hfz ho hx hc hf
      go_wp2
      go_roundw
      case rel => exact ⟨j + 1, by omega, by go_num, by go_num, unhide HM, unhide HF, unhide HO, unhide HX⟩
      case measure => simp [intOf]; omega
    · obtain rfl : j = zs.length := by omega
      have HM := hide hm
      have HF := hide hfz
      have HO := hide ho
      have HX := hide hx
      clear hm hfz ho hx hc hf
      go_wp2
      go_ret
      exact ⟨rfl, unhide HM, unhide HF, unhide HO, unhide HX⟩

theorem markI_zero (ao : Option Addr) (cap : Nat) (k : Int) (w : World) :
    Calls Tryz.prog 16 #[.slice ao 0 cap, .int .i64 k] w fun e w' => e = .returned (.int .i64 k) ∧ w' = w := by
  go_enter Tryz.func16, Tryz.ntmps16
  go_wp2
  refine wp_loop_rounds 1 ?_
  rw [rounds_succ]
  go_wp2
  go_ret
  exact ⟨rfl, rfl⟩

/-- markInt64S. -/
theorem mark_Int64S (v : Value) (zs : List Int) (bl : List Nat) (k : Int) (w : World) (h : (Lay.sl Lay.int).Own w [v] zs bl) (hk : 0 ≤ k) (hk2 : k + (Lay.sl Lay.int).vcnt zs ≤ 1000000000) :
    Calls Tryz.prog 16 #[v, .int .i64 k] w fun e w' => e = .returned (.int .i64 (k + (Lay.sl Lay.int).vcnt zs)) ∧ (Lay.sl Lay.int).Own w' [v] ((Lay.sl Lay.int).mkv k zs) bl ∧ Ext (fun q => q ∈ bl) w w' := by
  obtain ⟨hl, hn, hf⟩ := h
  rw [vcnt_ints] at hk2 ⊢
  rcases Lay.lies_ints.1 hl with ⟨ao, cap, rfl, hbig, hwf, ⟨rfl, rfl⟩ | ⟨b, off, rfl, hb, rfl, hc⟩⟩
  · refine (markI_zero ao cap k w).mono ?_
    rintro e w' ⟨rfl, rfl⟩
    exact ⟨by simp, ⟨hl, hn, hf⟩, Ext.refl _ _⟩
  · refine (markI_pos b off cap zs k w hk hk2 hc (hf b (by simp))).mono ?_
    rintro e w' ⟨rfl, hm, hfz, -, hx⟩
    refine ⟨rfl, ⟨Lay.lies_ints.2 ⟨_, cap, by rw [mk_ints_len], by rw [mk_ints_len]; exact hbig, mk_ints_wf k zs hk hk2, Or.inr ⟨b, off, rfl, Nat.lt_of_lt_of_le hb hx.size, rfl, fun j hj => ?_⟩⟩, hn, ?_⟩, hx.mono fun q _ e => by simp [e]⟩
    · rw [mk_ints_len] at hj
      rw [hm j hj, mk_ints_at k zs j hj]
    · intro b' hb' o
      obtain rfl : b' = b := by simpa using hb'
      exact hfz o

set_option maxHeartbeats 400000 in
theorem heldI_pos (b off cap n : Nat) (k : Int) (w : World) (hk : 0 ≤ k) (hk2 : k + n ≤ 1000000000) (hc : ∀ j, j < n → w.cell? ⟨b, off + j, none⟩ = some (.int .i64 (k + j))) :
    Calls Tryz.prog 129 #[.slice (some ⟨b, off, none⟩) n cap, .int .i64 k] w fun e w' => e = .returned (.int .i64 (k + n)) ∧ w' = w := by
  go_enter Tryz.func129, Tryz.ntmps129
  go_wp2
  go_loop [1, 5] (fun kk i => ∃ j : Nat, j ≤ n ∧ i = .int .i64 j ∧ kk = .int .i64 (k + j)) (fun _ i => n - (intOf i).toNat)
  case atStart => exact ⟨0, Nat.zero_le _, rfl, by simp⟩
  case round =>
    obtain ⟨j, hj, rfl, rfl⟩ := hrel
    by_cases hlt : j < n
    · have hcx := hc j hlt
      have hne : ((k + (j : Int)) != (k + (j : Int))) = false := by simp
      clear hc
      go_wp2
      go_round
      case rel => exact ⟨j + 1, by omega, by go_num, by go_num⟩
      case measure => simp [intOf]; omega
    · obtain rfl : j = n := by omega
      clear hc
      go_wp2
      go_ret
      exact ⟨rfl, rfl⟩
theorem heldI_zero (ao : Option Addr) (cap : Nat) (k : Int) (w : World) :
    Calls Tryz.prog 129 #[.slice ao 0 cap, .int .i64 k] w fun e w' => e = .returned (.int .i64 k) ∧ w' = w := by
  go_enter Tryz.func129, Tryz.ntmps129
  go_wp2
  refine wp_loop_rounds 1 ?_
  rw [rounds_succ]
  go_wp2
  go_ret
  exact ⟨rfl, rfl⟩
/-- heldInt64S. -/
theorem held_Int64S (v : Value) (zs : List Int) (k : Int) (w : World) (h : (Lay.sl Lay.int).Reads w [v] ((Lay.sl Lay.int).mkv k zs)) (hk : 0 ≤ k) (hk2 : k + (Lay.sl Lay.int).vcnt zs ≤ 1000000000) :
    Calls Tryz.prog 129 #[v, .int .i64 k] w fun e w' => e = .returned (.int .i64 (k + (Lay.sl Lay.int).vcnt zs)) ∧ Below w.heap.size w w' := by
  rw [vcnt_ints] at hk2 ⊢
  obtain ⟨ao, cap, rfl, hwf, hc⟩ := Lay.ints_reads h
  rw [mk_ints_len] at hc ⊢
  by_cases hp : 0 < zs.length
  · obtain ⟨b, off, rfl, hc1⟩ := hc hp
    refine (heldI_pos b off cap zs.length k w hk hk2 fun j hj => by rw [hc1 j hj, mk_ints_at k zs j hj]).mono ?_
    rintro e w' ⟨rfl, rfl⟩
    exact ⟨rfl, Below.refl _ _⟩
  · have e0 : zs.length = 0 := by omega
    rw [e0]
    refine (heldI_zero ao cap k w).mono ?_
    rintro e w' ⟨rfl, rfl⟩
    exact ⟨by simp, Below.refl _ _⟩

end Go.Proofs.YtfgadegpdknocaaGreat

namespace Go.Proofs.YtfgadegpdknocaaGreat
open Go.RowKit

theorem cnt_Center (x : DCenter) : Lay.tCenter.cnt x = 0 + (Lay.sl Lay.int).vcnt x.vec := by
  show (Lay.sl Lay.int).vcnt x.vec = 0 + (Lay.sl Lay.int).vcnt x.vec
  omega
theorem mkd_Center (k : Int) (x : DCenter) : Lay.tCenter.mkd k x = ⟨(Lay.sl Lay.int).mkv (k) x.vec⟩ := rfl
theorem vcnt_CenterS (xs : List DCenter) : (Lay.sl Lay.tCenter).vcnt xs = cntAll Lay.tCenter.cnt xs := rfl
theorem mkv_CenterS (k : Int) (xs : List DCenter) : (Lay.sl Lay.tCenter).mkv k xs = mkAll Lay.tCenter.cnt Lay.tCenter.mkd k xs := rfl

set_option maxRecDepth 10000 in
set_option maxHeartbeats 2000000 in
theorem markCenter_pos (b off cap : Nat) (xs : List DCenter) (bl : List Nat) (k : Int) (w : World) (h : (Lay.sl Lay.tCenter).Own w [.slice (some ⟨b, off, none⟩) xs.length cap] xs bl) (hk : 0 ≤ k) (hk2 : k + (cntAll Lay.tCenter.cnt xs : Nat) ≤ 1000000000) :
    Calls Tryz.prog 53 #[.slice (some ⟨b, off, none⟩) xs.length cap, .int .i64 k] w fun e w' => e = .returned (.int .i64 (k + (cntAll Lay.tCenter.cnt xs : Nat))) ∧ (Lay.sl Lay.tCenter).Own w' [.slice (some ⟨b, off, none⟩) xs.length cap] (mkAll Lay.tCenter.cnt Lay.tCenter.mkd k xs) bl ∧ Ext (fun q => q ∈ bl) w w' := by
  have hbig := h.reads.big
  have H := hide h
  clear h
  go_enter Tryz.func53, Tryz.ntmps53
  go_wp2_with fail
  go_loopw [1, 5] (fun kk i wr => ∃ (j : Nat) (kj : Int), j ≤ xs.length ∧ i = .int .i64 j ∧ kj = k + (cntAll Lay.tCenter.cnt (xs.take j) : Nat) ∧ kk = .int .i64 kj ∧ (Lay.sl Lay.tCenter).Own wr [.slice (some ⟨b, off, none⟩) xs.length cap] (mkPre Lay.tCenter.cnt Lay.tCenter.mkd k xs j) bl ∧ Ext (fun q => q ∈ bl) w wr) (fun _ i _ => xs.length - (intOf i).toNat)
  case atStart => exact ⟨0, k, Nat.zero_le _, rfl, by simp [cntAll], rfl, by rw [mkPre_zero]; exact unhide H, Ext.refl _ _⟩
  case round =>
    obtain ⟨j, kj, hj, rfl, hkj, rfl, hO, hX⟩ := hrel
    clear H
    by_cases hlt : j < xs.length
    · have hj2 : j < (mkPre Lay.tCenter.cnt Lay.tCenter.mkd k xs j).length := by rw [mkPre_len _ _ _ _ _ hj]; exact hlt
      obtain ⟨row, blk, R, O, hbk, hin, hfin⟩ := Lay.own_upd hO hj2
      rw [mkPre_get _ _ _ _ _ hlt] at O
      have HT := hide (Lay.cntAll_take (f := Lay.tCenter.cnt) hlt)
      have hle := Lay.cntAll_take_le (f := Lay.tCenter.cnt) (xs := xs) (k := j + 1)
      rw [unhide HT] at hle
      have HM : Hid (∀ y, y = Lay.tCenter.mkd kj xs[j] → (mkPre Lay.tCenter.cnt Lay.tCenter.mkd k xs j).set j y = mkPre Lay.tCenter.cnt Lay.tCenter.mkd k xs (j + 1)) := fun y e => by rw [e, hkj]; exact mkPre_set _ _ _ _ _ hlt
      have HF := hide hfin
      have HX := hide hX
      have HI := hide hin
      clear hO hfin hX hin hj2
      generalize hx : xs[j] = x at *
      clear hx
      have hcn := cnt_Center x
      have HD := hide (mkd_Center kj x)
      have hb1 : 0 ≤ kj := by omega
      have hb2 : kj + (Lay.tCenter.cnt x : Int) ≤ 1000000000 := by omega
      have HK := hide hkj
      clear hkj hle
      have hnd := O.2.1
      obtain ⟨a0, d0, g0, rfl, hbl, O0⟩ := own_Center O
      clear O
      subst hbl
      have HN := hide hnd
      clear hnd
      have l1 : b < wr.heap.size := R.lt
      have c0 : wr.cell? ⟨b, off + j, none⟩ = some (.slice a0 x.vec.length d0) := (by have q1 : wr.cell? ⟨b, off + j * 1 + 0, none⟩ = some (.slice a0 x.vec.length d0) := R.at 0 _ rfl; rw [Nat.mul_one, Nat.add_zero] at q1; exact q1)
      have HR := hide R
      clear R
      go_wp2_with fail
      refine (mark_Int64S _ x.vec blk (kj) _ O0 (by omega) (by omega)).mono ?_
      rintro e w2 ⟨rfl, Q0, E2⟩
      have R := (unhide HR).call E2 (fun _ h => h) hbk
      clear E2 O0 HR c0 
      clear l1
      have l1 : b < w2.heap.size := R.lt
      have HR := hide R
      clear R
      have HQ := hide Q0
      clear Q0
      go_wp2_with fail
      go_roundw
      case rel =>
        refine ⟨j + 1, _, by omega, by go_num, ?_, rfl, ?_, ?_⟩
        · rw [unhide HT, hcn]
          have := unhide HK
          omega
        · rw [← unhide HM _ (unhide HD).symm]
          exact unhide HF _ _ _ (unhide HR) (mkOwn_Center (x := ⟨(Lay.sl Lay.int).mkv (kj) x.vec⟩) (unhide HQ)  (unhide HN))
        · exact (unhide HX).trans ((unhide HR).ext.mono fun q _ hq => unhide HI q (by rcases hq with h | h; exact Or.inl h.symm; exact Or.inr h))
      case measure => simp [intOf]; omega
    · obtain rfl : j = xs.length := by omega
      rw [mkPre_all] at hO
      rw [List.take_length] at hkj
      have HK := hide hkj
      clear hkj
      have HO := hide hO
      have HX := hide hX
      clear hO hX
      go_wp2_with fail
      go_ret
      exact ⟨by rw [← unhide HK]; rfl, unhide HO, unhide HX⟩

theorem markCenter_zero (ao : Option Addr) (cap : Nat) (k : Int) (w : World) :
    Calls Tryz.prog 53 #[.slice ao 0 cap, .int .i64 k] w fun e w' => e = .returned (.int .i64 k) ∧ w' = w := by
  go_enter Tryz.func53, Tryz.ntmps53
  go_wp2_with fail
  refine wp_loop_rounds 1 ?_
  rw [rounds_succ]
  go_wp2_with fail
  go_ret
  exact ⟨rfl, rfl⟩

/-- markCenterS. -/
theorem mark_CenterS (v : Value) (xs : List DCenter) (bl : List Nat) (k : Int) (w : World) (h : (Lay.sl Lay.tCenter).Own w [v] xs bl) (hk : 0 ≤ k) (hk2 : k + (Lay.sl Lay.tCenter).vcnt xs ≤ 1000000000) :
    Calls Tryz.prog 53 #[v, .int .i64 k] w fun e w' => e = .returned (.int .i64 (k + (Lay.sl Lay.tCenter).vcnt xs)) ∧ (Lay.sl Lay.tCenter).Own w' [v] ((Lay.sl Lay.tCenter).mkv k xs) bl ∧ Ext (fun q => q ∈ bl) w w' := by
  obtain ⟨ao, cap, rfl⟩ := open_sl h.reads
  by_cases hp : 0 < xs.length
  · obtain ⟨b, off, rfl, hbl⟩ := Lay.sl_addr h.reads hp
    exact markCenter_pos b off cap xs bl k w h hk hk2
  · obtain rfl : xs = [] := List.eq_nil_of_length_eq_zero (by omega)
    refine (markCenter_zero ao cap k w).mono ?_
    rintro e w' ⟨rfl, rfl⟩
    exact ⟨by rw [vcnt_CenterS]; simp [cntAll], h, Ext.refl _ _⟩

end Go.Proofs.YtfgadegpdknocaaGreat

namespace Go.Proofs.YtfgadegpdknocaaGreat
open Go.RowKit

theorem vcnt_IvfList (x : DIvfList) : Lay.tIvfList.vcnt x = (Lay.sl Lay.tItem).vcnt x.items := by
  show (Lay.sl Lay.tItem).vcnt x.items = (Lay.sl Lay.tItem).vcnt x.items
  omega
theorem mkv_IvfList (k : Int) (x : DIvfList) : Lay.tIvfList.mkv k x = ⟨(Lay.sl Lay.tItem).mkv (k) x.items⟩ := by
  simp [Lay.tIvfList, Lay.via]
theorem own_IvfList {w : World} {cs : List Value} {x : DIvfList} {bl : List Nat} (h : Lay.tIvfList.Own w cs x bl) : ∃ (a0 : Option Addr) (d0 : Nat) (g0 : List Nat), cs = [.slice a0 x.items.length d0] ∧ bl = g0 ∧ (Lay.sl Lay.tItem).Own w [.slice a0 x.items.length d0] x.items g0 := by
  obtain ⟨hl, hn, hf⟩ := h
  obtain ⟨a0, d0, b0, rfl, hbl, l0⟩ := lies_IvfList.1 hl
  rw [hbl] at hn hf
  exact ⟨a0, d0, b0, rfl, hbl, ⟨l0, hn, hf⟩⟩
theorem mkOwn_IvfList {w : World} {x : DIvfList} {c0 : List Value} {g0 : List Nat} (O0 : (Lay.sl Lay.tItem).Own w c0 x.items g0) (hn : (g0).Nodup) : Lay.tIvfList.Own w (c0) x (g0) := by
  refine ⟨O0.1, hn, ?_⟩
  intro b hb o
  exact O0.2.2 b hb o

end Go.Proofs.YtfgadegpdknocaaGreat

namespace Go.Proofs.YtfgadegpdknocaaGreat
open Go.RowKit

theorem cnt_Item (x : DItem) : Lay.tItem.cnt x = 1 + (Lay.sl Lay.int).vcnt x.vec := by
  show 1 + ((Lay.sl Lay.int).vcnt x.vec) = 1 + (Lay.sl Lay.int).vcnt x.vec
  omega
theorem mkd_Item (k : Int) (x : DItem) : Lay.tItem.mkd k x = ⟨k, (Lay.sl Lay.int).mkv (k + 1) x.vec⟩ := rfl
theorem vcnt_ItemS (xs : List DItem) : (Lay.sl Lay.tItem).vcnt xs = cntAll Lay.tItem.cnt xs := rfl
theorem mkv_ItemS (k : Int) (xs : List DItem) : (Lay.sl Lay.tItem).mkv k xs = mkAll Lay.tItem.cnt Lay.tItem.mkd k xs := rfl

set_option maxRecDepth 10000 in
set_option maxHeartbeats 2000000 in
theorem markItem_pos (b off cap : Nat) (xs : List DItem) (bl : List Nat) (k : Int) (w : World) (h : (Lay.sl Lay.tItem).Own w [.slice (some ⟨b, off, none⟩) xs.length cap] xs bl) (hk : 0 ≤ k) (hk2 : k + (cntAll Lay.tItem.cnt xs : Nat) ≤ 1000000000) :
    Calls Tryz.prog 98 #[.slice (some ⟨b, off, none⟩) xs.length cap, .int .i64 k] w fun e w' => e = .returned (.int .i64 (k + (cntAll Lay.tItem.cnt xs : Nat))) ∧ (Lay.sl Lay.tItem).Own w' [.slice (some ⟨b, off, none⟩) xs.length cap] (mkAll Lay.tItem.cnt Lay.tItem.mkd k xs) bl ∧ Ext (fun q => q ∈ bl) w w' := by
  have hbig := h.reads.big
  have H := hide h
  clear h
  go_enter Tryz.func98, Tryz.ntmps98
  go_wp2_with fail
  go_loopw [1, 5] (fun kk i wr => ∃ (j : Nat) (kj : Int), j ≤ xs.length ∧ i = .int .i64 j ∧ kj = k + (cntAll Lay.tItem.cnt (xs.take j) : Nat) ∧ kk = .int .i64 kj ∧ (Lay.sl Lay.tItem).Own wr [.slice (some ⟨b, off, none⟩) xs.length cap] (mkPre Lay.tItem.cnt Lay.tItem.mkd k xs j) bl ∧ Ext (fun q => q ∈ bl) w wr) (fun _ i _ => xs.length - (intOf i).toNat)
  case atStart => exact ⟨0, k, Nat.zero_le _, rfl, by simp [cntAll], rfl, by rw [mkPre_zero]; exact unhide H, Ext.refl _ _⟩
  case round =>
    obtain ⟨j, kj, hj, rfl, hkj, rfl, hO, hX⟩ := hrel
    clear H
    by_cases hlt : j < xs.length
    · have hj2 : j < (mkPre Lay.tItem.cnt Lay.tItem.mkd k xs j).length := by rw [mkPre_len _ _ _ _ _ hj]; exact hlt
      obtain ⟨row, blk, R, O, hbk, hin, hfin⟩ := Lay.own_upd hO hj2
      rw [mkPre_get _ _ _ _ _ hlt] at O
      have HT := hide (Lay.cntAll_take (f := Lay.tItem.cnt) hlt)
      have hle := Lay.cntAll_take_le (f := Lay.tItem.cnt) (xs := xs) (k := j + 1)
      rw [unhide HT] at hle
      have HM : Hid (∀ y, y = Lay.tItem.mkd kj xs[j] → (mkPre Lay.tItem.cnt Lay.tItem.mkd k xs j).set j y = mkPre Lay.tItem.cnt Lay.tItem.mkd k xs (j + 1)) := fun y e => by rw [e, hkj]; exact mkPre_set _ _ _ _ _ hlt
      have HF := hide hfin
      have HX := hide hX
      have HI := hide hin
      clear hO hfin hX hin hj2
      generalize hx : xs[j] = x at *
      clear hx
      have hcn := cnt_Item x
      have HD := hide (mkd_Item kj x)
      have hb1 : 0 ≤ kj := by omega
      have hb2 : kj + (Lay.tItem.cnt x : Int) ≤ 1000000000 := by omega
      have HK := hide hkj
      clear hkj hle
      have hnd := O.2.1
      obtain ⟨a1, d1, g1, rfl, hbl, O1, v0⟩ := own_Item O
      clear O
      subst hbl
      have HN := hide hnd
      clear hnd
      have l1 : b < wr.heap.size := R.lt
      have c0 : wr.cell? ⟨b, off + j * 2, none⟩ = some (.int .i64 x.id) := R.at 0 _ rfl
      have f0 : wr.frozen? ⟨b, off + j * 2, none⟩ = false := R.soft _
      have c1 : wr.cell? ⟨b, off + j * 2 + 1, none⟩ = some (.slice a1 x.vec.length d1) := R.at 1 _ rfl
      have R0_ : RowAt wr (wr.setCell ⟨b, off + j * 2, none⟩ (.int .i64 kj)) b (off + j * 2) 2 [.int .i64 kj, .slice a1 x.vec.length d1] blk := (R.set 0 (.int .i64 kj) (by decide))
      have E0_ : Ext (fun q => q = b) wr (wr.setCell ⟨b, off + j * 2, none⟩ (.int .i64 kj)) := ((Ext.refl (fun q => q = b) _).setCell ⟨b, off + j * 2, none⟩ (.int .i64 kj) rfl)
      have O1_ := O1.ext E0_ (fun c hc e => hbk (e ▸ hc))
      clear O1
      have O1 := O1_
      clear O1_
      clear R E0_
      have R := R0_
      clear R0_
      have HR := hide R
      clear R
      go_wp2_with fail
      refine (mark_Int64S _ x.vec blk (kj + 1) _ O1 (by omega) (by omega)).mono ?_
      rintro e w2 ⟨rfl, Q1, E2⟩
      have R := (unhide HR).call E2 (fun _ h => h) hbk
      clear E2 O1 HR c0 c1 f0
      clear l1
      have l1 : b < w2.heap.size := R.lt
      have HR := hide R
      clear R
      have HQ := hide Q1
      clear Q1
      go_wp2_with fail
      go_roundw
      case rel =>
        refine ⟨j + 1, _, by omega, by go_num, ?_, rfl, ?_, ?_⟩
        · rw [unhide HT, hcn]
          have := unhide HK
          omega
        · rw [← unhide HM _ (unhide HD).symm]
          exact unhide HF _ _ _ (unhide HR) (mkOwn_Item (x := ⟨kj, (Lay.sl Lay.int).mkv (kj + 1) x.vec⟩) (unhide HQ) (show (Lit.int .i64 (kj)).wf = true from wf_of_bd (by omega)) (unhide HN))
        · exact (unhide HX).trans ((unhide HR).ext.mono fun q _ hq => unhide HI q (by rcases hq with h | h; exact Or.inl h.symm; exact Or.inr h))
      case measure => simp [intOf]; omega
    · obtain rfl : j = xs.length := by omega
      rw [mkPre_all] at hO
      rw [List.take_length] at hkj
      have HK := hide hkj
      clear hkj
      have HO := hide hO
      have HX := hide hX
      clear hO hX
      go_wp2_with fail
      go_ret
      exact ⟨by rw [← unhide HK]; rfl, unhide HO, unhide HX⟩

theorem markItem_zero (ao : Option Addr) (cap : Nat) (k : Int) (w : World) :
    Calls Tryz.prog 98 #[.slice ao 0 cap, .int .i64 k] w fun e w' => e = .returned (.int .i64 k) ∧ w' = w := by
  go_enter Tryz.func98, Tryz.ntmps98
  go_wp2_with fail
  refine wp_loop_rounds 1 ?_
  rw [rounds_succ]
  go_wp2_with fail
  go_ret
  exact ⟨rfl, rfl⟩

/-- markItemS. -/
theorem mark_ItemS (v : Value) (xs : List DItem) (bl : List Nat) (k : Int) (w : World) (h : (Lay.sl Lay.tItem).Own w [v] xs bl) (hk : 0 ≤ k) (hk2 : k + (Lay.sl Lay.tItem).vcnt xs ≤ 1000000000) :
    Calls Tryz.prog 98 #[v, .int .i64 k] w fun e w' => e = .returned (.int .i64 (k + (Lay.sl Lay.tItem).vcnt xs)) ∧ (Lay.sl Lay.tItem).Own w' [v] ((Lay.sl Lay.tItem).mkv k xs) bl ∧ Ext (fun q => q ∈ bl) w w' := by
  obtain ⟨ao, cap, rfl⟩ := open_sl h.reads
  by_cases hp : 0 < xs.length
  · obtain ⟨b, off, rfl, hbl⟩ := Lay.sl_addr h.reads hp
    exact markItem_pos b off cap xs bl k w h hk hk2
  · obtain rfl : xs = [] := List.eq_nil_of_length_eq_zero (by omega)
    refine (markItem_zero ao cap k w).mono ?_
    rintro e w' ⟨rfl, rfl⟩
    exact ⟨by rw [vcnt_ItemS]; simp [cntAll], h, Ext.refl _ _⟩

end Go.Proofs.YtfgadegpdknocaaGreat

namespace Go.Proofs.YtfgadegpdknocaaGreat
open Go.RowKit

theorem cnt_IvfList (x : DIvfList) : Lay.tIvfList.cnt x = 0 + (Lay.sl Lay.tItem).vcnt x.items := by
  show (Lay.sl Lay.tItem).vcnt x.items = 0 + (Lay.sl Lay.tItem).vcnt x.items
  omega
theorem mkd_IvfList (k : Int) (x : DIvfList) : Lay.tIvfList.mkd k x = ⟨(Lay.sl Lay.tItem).mkv (k) x.items⟩ := rfl
theorem vcnt_IvfListS (xs : List DIvfList) : (Lay.sl Lay.tIvfList).vcnt xs = cntAll Lay.tIvfList.cnt xs := rfl
theorem mkv_IvfListS (k : Int) (xs : List DIvfList) : (Lay.sl Lay.tIvfList).mkv k xs = mkAll Lay.tIvfList.cnt Lay.tIvfList.mkd k xs := rfl

set_option maxRecDepth 10000 in
set_option maxHeartbeats 2000000 in
theorem markIvfList_pos (b off cap : Nat) (xs : List DIvfList) (bl : List Nat) (k : Int) (w : World) (h : (Lay.sl Lay.tIvfList).Own w [.slice (some ⟨b, off, none⟩) xs.length cap] xs bl) (hk : 0 ≤ k) (hk2 : k + (cntAll Lay.tIvfList.cnt xs : Nat) ≤ 1000000000) :
    Calls Tryz.prog 54 #[.slice (some ⟨b, off, none⟩) xs.length cap, .int .i64 k] w fun e w' => e = .returned (.int .i64 (k + (cntAll Lay.tIvfList.cnt xs : Nat))) ∧ (Lay.sl Lay.tIvfList).Own w' [.slice (some ⟨b, off, none⟩) xs.length cap] (mkAll Lay.tIvfList.cnt Lay.tIvfList.mkd k xs) bl ∧ Ext (fun q => q ∈ bl) w w' := by
  have hbig := h.reads.big
  have H := hide h
  clear h
  go_enter Tryz.func54, Tryz.ntmps54
  go_wp2_with fail
  go_loopw [1, 5] (fun kk i wr => ∃ (j : Nat) (kj : Int), j ≤ xs.length ∧ i = .int .i64 j ∧ kj = k + (cntAll Lay.tIvfList.cnt (xs.take j) : Nat) ∧ kk = .int .i64 kj ∧ (Lay.sl Lay.tIvfList).Own wr [.slice (some ⟨b, off, none⟩) xs.length cap] (mkPre Lay.tIvfList.cnt Lay.tIvfList.mkd k xs j) bl ∧ Ext (fun q => q ∈ bl) w wr) (fun _ i _ => xs.length - (intOf i).toNat)
  case atStart => exact ⟨0, k, Nat.zero_le _, rfl, by simp [cntAll], rfl, by rw [mkPre_zero]; exact unhide H, Ext.refl _ _⟩
  case round =>
    obtain ⟨j, kj, hj, rfl, hkj, rfl, hO, hX⟩ := hrel
    clear H
    by_cases hlt : j < xs.length
    · have hj2 : j < (mkPre Lay.tIvfList.cnt Lay.tIvfList.mkd k xs j).length := by rw [mkPre_len _ _ _ _ _ hj]; exact hlt
      obtain ⟨row, blk, R, O, hbk, hin, hfin⟩ := Lay.own_upd hO hj2
      rw [mkPre_get _ _ _ _ _ hlt] at O
      have HT := hide (Lay.cntAll_take (f := Lay.tIvfList.cnt) hlt)
      have hle := Lay.cntAll_take_le (f := Lay.tIvfList.cnt) (xs := xs) (k := j + 1)
      rw [unhide HT] at hle
      have HM : Hid (∀ y, y = Lay.tIvfList.mkd kj xs[j] → (mkPre Lay.tIvfList.cnt Lay.tIvfList.mkd k xs j).set j y = mkPre Lay.tIvfList.cnt Lay.tIvfList.mkd k xs (j + 1)) := fun y e => by rw [e, hkj]; exact mkPre_set _ _ _ _ _ hlt
      have HF := hide hfin
      have HX := hide hX
      have HI := hide hin
      clear hO hfin hX hin hj2
      generalize hx : xs[j] = x at *
      clear hx
      have hcn := cnt_IvfList x
      have HD := hide (mkd_IvfList kj x)
      have hb1 : 0 ≤ kj := by omega
      have hb2 : kj + (Lay.tIvfList.cnt x : Int) ≤ 1000000000 := by omega
      have HK := hide hkj
      clear hkj hle
      have hnd := O.2.1
      obtain ⟨a0, d0, g0, rfl, hbl, O0⟩ := own_IvfList O
      clear O
      subst hbl
      have HN := hide hnd
      clear hnd
      have l1 : b < wr.heap.size := R.lt
      have c0 : wr.cell? ⟨b, off + j, none⟩ = some (.slice a0 x.items.length d0) := (by have q1 : wr.cell? ⟨b, off + j * 1 + 0, none⟩ = some (.slice a0 x.items.length d0) := R.at 0 _ rfl; rw [Nat.mul_one, Nat.add_zero] at q1; exact q1)
      have HR := hide R
      clear R
      go_wp2_with fail
      refine (mark_ItemS _ x.items blk (kj) _ O0 (by omega) (by omega)).mono ?_
      rintro e w2 ⟨rfl, Q0, E2⟩
      have R := (unhide HR).call E2 (fun _ h => h) hbk
      clear E2 O0 HR c0 
      clear l1
      have l1 : b < w2.heap.size := R.lt
      have HR := hide R
      clear R
      have HQ := hide Q0
      clear Q0
      go_wp2_with fail
      go_roundw
      case rel =>
        refine ⟨j + 1, _, by omega, by go_num, ?_, rfl, ?_, ?_⟩
        · rw [unhide HT, hcn]
          have := unhide HK
          omega
        · rw [← unhide HM _ (unhide HD).symm]
          exact unhide HF _ _ _ (unhide HR) (mkOwn_IvfList (x := ⟨(Lay.sl Lay.tItem).mkv (kj) x.items⟩) (unhide HQ)  (unhide HN))
        · exact (unhide HX).trans ((unhide HR).ext.mono fun q _ hq => unhide HI q (by rcases hq with h | h; exact Or.inl h.symm; exact Or.inr h))
      case measure => simp [intOf]; omega
    · obtain rfl : j = xs.length := by omega
      rw [mkPre_all] at hO
      rw [List.take_length] at hkj
      have HK := hide hkj
      clear hkj
      have HO := hide hO
      have HX := hide hX
      clear hO hX
      go_wp2_with fail
      go_ret
      exact ⟨by rw [← unhide HK]; rfl, unhide HO, unhide HX⟩

theorem markIvfList_zero (ao : Option Addr) (cap : Nat) (k : Int) (w : World) :
    Calls Tryz.prog 54 #[.slice ao 0 cap, .int .i64 k] w fun e w' => e = .returned (.int .i64 k) ∧ w' = w := by
  go_enter Tryz.func54, Tryz.ntmps54
  go_wp2_with fail
  refine wp_loop_rounds 1 ?_
  rw [rounds_succ]
  go_wp2_with fail
  go_ret
  exact ⟨rfl, rfl⟩

/-- markIvfListS. -/
theorem mark_IvfListS (v : Value) (xs : List DIvfList) (bl : List Nat) (k : Int) (w : World) (h : (Lay.sl Lay.tIvfList).Own w [v] xs bl) (hk : 0 ≤ k) (hk2 : k + (Lay.sl Lay.tIvfList).vcnt xs ≤ 1000000000) :
    Calls Tryz.prog 54 #[v, .int .i64 k] w fun e w' => e = .returned (.int .i64 (k + (Lay.sl Lay.tIvfList).vcnt xs)) ∧ (Lay.sl Lay.tIvfList).Own w' [v] ((Lay.sl Lay.tIvfList).mkv k xs) bl ∧ Ext (fun q => q ∈ bl) w w' := by
  obtain ⟨ao, cap, rfl⟩ := open_sl h.reads
  by_cases hp : 0 < xs.length
  · obtain ⟨b, off, rfl, hbl⟩ := Lay.sl_addr h.reads hp
    exact markIvfList_pos b off cap xs bl k w h hk hk2
  · obtain rfl : xs = [] := List.eq_nil_of_length_eq_zero (by omega)
    refine (markIvfList_zero ao cap k w).mono ?_
    rintro e w' ⟨rfl, rfl⟩
    exact ⟨by rw [vcnt_IvfListS]; simp [cntAll], h, Ext.refl _ _⟩

end Go.Proofs.YtfgadegpdknocaaGreat
