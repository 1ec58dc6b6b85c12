/-
  The law FnTrains answers true at every slice of bytes, and writes nothing that was there.
  No condition.
-/
import Derived.Test.YtjofcmdlcoganaaTq04
import Derived.Test.YtjofcmdlcoganaaTq07
import Derived.Test.YtjofcmdlcoganaaTq09
import Derived.Deep.RegionHeld3

namespace Go.Proofs.Ytjofcmdlcoganaa
open Go.RowKit

theorem fieldCR0 (c : Int) (a : Option Addr) (n cp : Nat) (w : World) : (Instr.field 30 (.agg #[.int .i64 c, .slice a n cp]) 0).run Try.prog w = .ok (.int .i64 c) w := by kernel_rfl
theorem fieldIR1 (c x : Int) (w : World) : (Instr.field 33 (.agg #[.int .i64 c, .int .i64 x]) 1).run Try.prog w = .ok (.int .i64 x) w := by kernel_rfl
theorem trainFault_at0 {xs : List DItem} {ss : List Int} {r : Int} (h : trainFault xs ss r = 0) : trainFault xs ss 0 = 0 := by
  obtain ⟨h1, h0, hn, -, ha⟩ := trainFault_zero h
  rw [trainFault_seeds h1 h0 (by omega) (by decide), ha, if_pos rfl]

theorem lawTrains_many (ao : Option Addr) (len cap : Nat) (w : World) (hn : 1048576 < len) :
    Calls Try.prog 3 #[.slice ao len cap] w fun e w' => e = .returned (.bool true) ∧ Below w.heap.size w w' := by
  go_enter Try.func3, Try.ntmps3
  go_wp2_with fail
  refine (big_yes ao len cap w hn).mono ?_
  rintro e w' ⟨rfl, rfl⟩
  go_wp2_with fail
  go_ret
  exact ⟨rfl, Below.refl _ _⟩

set_option maxRecDepth 100000 in
set_option maxHeartbeats 8000000 in
theorem lawTrains_few (ao : Option Addr) (len cap : Nat) (w : World) (hn : len ≤ 1048576) (hcode : IsCode w.heap.size w (.slice ao len cap)) :
    Calls Try.prog 3 #[.slice ao len cap] w fun e w' => e = .returned (.bool true) ∧ Below w.heap.size w w' := by
  have HC := hide hcode
  clear hcode
  go_enter Try.func3, Try.ntmps3
  go_wp2_with fail
  refine (big_no ao len cap w hn).mono ?_
  rintro e w ⟨rfl, rfl⟩
  go_wp2_with fail
  refine (drawTrain ao len cap w (unhide HC)).mono ?_
  rintro e w1 ⟨v, xs, u, zs, k, rfl, hX, hxl, hZ, hzl, hkw, hb1⟩
  obtain ⟨ax, cx, rfl⟩ := open_sl hX
  obtain ⟨az, cz, rfl⟩ := open_sl hZ
  have L1 := hide (implTrain _ xs _ zs k w1 hX hZ)
  have HX1 := hide hX
  have HZ1 := hide hZ
  have HB1 := hide hb1
  clear hX hZ hb1 HC
  go_wp2_with fail
  refine (unhide L1).mono ?_
  rintro e w2 ⟨cs, rfl, O, hb2⟩
  obtain ⟨a1, c1, rfl, R1⟩ := open_CentersResult O.reads
  clear O
  have HX2 := hide ((unhide HX1).later hb2)
  have HZ2 := hide ((unhide HZ1).later hb2)
  have HB2 := hide ((unhide HB1).trans (hb2.mono (unhide HB1).size))
  clear hb2 HX1 HZ1 HB1 L1
  by_cases hf : trainFault xs zs k = 0
  · obtain ⟨hft, h0, hnz, hkb, hall⟩ := trainFault_zero hf
    have hcf0 := seedCs_right hft h0 hnz
    obtain ⟨hcf, hcl, hcc⟩ := trainN_right hft k.toNat (seedCs xs zs) hcf0
    have hR : trainR xs zs k = ⟨0, trainN xs k.toNat (seedCs xs zs)⟩ := if_pos hf
    have hR0 : trainR xs zs 0 = ⟨0, seedCs xs zs⟩ := if_pos (trainFault_at0 hf)
    rw [hR] at R1 ⊢
    simp only at R1 ⊢
    rw [seedCs_len] at hcl
    have HCL := hide hcl
    clear hR hall hnz hcl
    generalize hcur : trainN xs k.toNat (seedCs xs zs) = cur at *
    clear hcur
    have nb2 : Below w2.heap.size w2 (w2.alloc (.cells #[.int .i64 0, .slice a1 cur.length c1] 30)) := (Below.refl _ _).alloc (Nat.le_refl _) _
    have x6 : Box 0 #[.int .i64 0, .slice a1 cur.length c1] 30 (w2.alloc (.cells #[.int .i64 0, .slice a1 cur.length c1] 30)) w2.heap.size := newBox (Nat.zero_le _)
    have HX6 := hide x6
    replace HX2 := hide ((unhide HX2).later nb2)
    replace HZ2 := hide ((unhide HZ2).later nb2)
    have HC2 := hide (R1.later nb2)
    replace HB2 := hide ((unhide HB2).trans (nb2.mono (unhide HB2).size))
    have L2 := hide (implTrain _ xs _ zs 0 _ (unhide HX2) (unhide HZ2))
    rw [hR0] at L2
    clear R1 nb2 x6 hR0
    go_wp2_with fail
    generalize w2.alloc (.cells #[.int .i64 0, .slice a1 cur.length c1] 30) = W2 at *
    refine (unhide L2).mono ?_
    rintro e w3 ⟨cs, rfl, O, hb3⟩
    obtain ⟨a2, c2, rfl, R2⟩ := open_CentersResult O.reads
    simp only at R2 ⊢
    have nb3 : Below w3.heap.size w3 (w3.alloc (.cells #[.int .i64 0, .slice a2 (seedCs xs zs).length c2] 30)) := (Below.refl _ _).alloc (Nat.le_refl _) _
    have x7 : Box 0 #[.int .i64 0, .slice a2 (seedCs xs zs).length c2] 30 (w3.alloc (.cells #[.int .i64 0, .slice a2 (seedCs xs zs).length c2] 30)) w3.heap.size := newBox (Nat.zero_le _)
    have z1 := x7.at 1 _ rfl
    simp only [List.getElem_toArray, List.getElem_cons_zero, List.getElem_cons_succ] at z1
    replace HX6 := hide (((unhide HX6).keep hb3).keep nb3)
    replace HX2 := hide (((unhide HX2).later hb3).later nb3)
    replace HC2 := hide (((unhide HC2).later hb3).later nb3)
    replace HB2 := hide (((unhide HB2).trans (hb3.mono (unhide HB2).size)).trans (nb3.mono (Nat.le_trans (unhide HB2).size hb3.size)))
    have L3 := hide (implCostOf _ (seedCs xs zs) _ xs _ (R2.later nb3) (unhide HX2))
    rw [show costR (seedCs xs zs) xs = ⟨0, cost (seedCs xs zs) xs⟩ from if_pos (show askFault (seedCs xs zs) xs = 0 by rw [askFault, if_pos hcf0]; exact hft)] at L3
    clear O L2 hb3 nb3 R2 x7 HZ2
    go_wp2_with fail
    generalize w3.alloc (.cells #[.int .i64 0, .slice a2 (seedCs xs zs).length c2] 30) = W3 at *
    clear z1
    refine (unhide L3).mono ?_
    rintro e w4 ⟨cs, rfl, O, hb4⟩
    obtain ⟨bl4, hl4⟩ := O.reads
    obtain ⟨rfl, -⟩ := lies_IntResult.1 hl4
    simp only
    generalize hc0 : cost (seedCs xs zs) xs = cS at *
    clear hc0
    have nb4 : Below w4.heap.size w4 (w4.alloc (.cells #[.int .i64 0, .int .i64 cS] 33)) := (Below.refl _ _).alloc (Nat.le_refl _) _
    have x8 : Box 0 #[.int .i64 0, .int .i64 cS] 33 (w4.alloc (.cells #[.int .i64 0, .int .i64 cS] 33)) w4.heap.size := newBox (Nat.zero_le _)
    have HX8 := hide x8
    replace HX6 := hide (((unhide HX6).keep hb4).keep nb4)
    replace HX2 := hide (((unhide HX2).later hb4).later nb4)
    replace HC2 := hide (((unhide HC2).later hb4).later nb4)
    replace HB2 := hide (((unhide HB2).trans (hb4.mono (unhide HB2).size)).trans (nb4.mono (Nat.le_trans (unhide HB2).size hb4.size)))
    have z1 := (unhide HX6).at 1 _ rfl
    simp only [List.getElem_toArray, List.getElem_cons_zero, List.getElem_cons_succ] at z1
    have hask : askFault cur xs = 0 := by rw [askFault, if_pos hcf]; exact hft
    have L4 := hide (implCostOf _ cur _ xs _ (unhide HC2) (unhide HX2))
    rw [show costR cur xs = ⟨0, cost cur xs⟩ from if_pos hask] at L4
    clear O hl4 L3 hb4 nb4 x8
    go_wp2_with fail
    generalize w4.alloc (.cells #[.int .i64 0, .int .i64 cS] 33) = W4 at *
    clear z1
    refine (unhide L4).mono ?_
    rintro e w5 ⟨cs, rfl, O, hb5⟩
    obtain ⟨bl5, hl5⟩ := O.reads
    obtain ⟨rfl, -⟩ := lies_IntResult.1 hl5
    simp only
    generalize hc0 : cost cur xs = cT at *
    have HCT := hide hc0
    clear hc0
    have nb5 : Below w5.heap.size w5 (w5.alloc (.cells #[.int .i64 0, .int .i64 cT] 33)) := (Below.refl _ _).alloc (Nat.le_refl _) _
    have x9 : Box 0 #[.int .i64 0, .int .i64 cT] 33 (w5.alloc (.cells #[.int .i64 0, .int .i64 cT] 33)) w5.heap.size := newBox (Nat.zero_le _)
    have HX9 := hide x9
    replace HX6 := hide (((unhide HX6).keep hb5).keep nb5)
    replace HX8 := hide (((unhide HX8).keep hb5).keep nb5)
    replace HX2 := hide (((unhide HX2).later hb5).later nb5)
    replace HC2 := hide (((unhide HC2).later hb5).later nb5)
    replace HB2 := hide (((unhide HB2).trans (hb5.mono (unhide HB2).size)).trans (nb5.mono (Nat.le_trans (unhide HB2).size hb5.size)))
    have z1 := (unhide HX6).at 1 _ rfl
    simp only [List.getElem_toArray, List.getElem_cons_zero, List.getElem_cons_succ] at z1
    have L5 := hide (implMoveOf _ cur _ xs _ (unhide HC2) (unhide HX2))
    rw [show movedR cur xs = ⟨0, moved cur xs⟩ from if_pos hask] at L5
    clear O hl5 L4 hb5 nb5 x9
    go_wp2_with fail
    generalize w5.alloc (.cells #[.int .i64 0, .int .i64 cT] 33) = W5 at *
    clear z1
    refine (unhide L5).mono ?_
    rintro e w6 ⟨cs, rfl, O, hb6⟩
    obtain ⟨a3, c3, rfl, R3⟩ := open_CentersResult O.reads
    simp only
    generalize (moved cur xs).length = nm at *
    have nb6 : Below w6.heap.size w6 (w6.alloc (.cells #[.int .i64 0, .slice a3 nm c3] 30)) := (Below.refl _ _).alloc (Nat.le_refl _) _
    have x10 : Box 0 #[.int .i64 0, .slice a3 nm c3] 30 (w6.alloc (.cells #[.int .i64 0, .slice a3 nm c3] 30)) w6.heap.size := newBox (Nat.zero_le _)
    have HX10 := hide x10
    replace HX6 := hide (((unhide HX6).keep hb6).keep nb6)
    replace HX8 := hide (((unhide HX8).keep hb6).keep nb6)
    replace HX9 := hide (((unhide HX9).keep hb6).keep nb6)
    replace HX2 := hide (((unhide HX2).later hb6).later nb6)
    replace HC2 := hide (((unhide HC2).later hb6).later nb6)
    replace HB2 := hide (((unhide HB2).trans (hb6.mono (unhide HB2).size)).trans (nb6.mono (Nat.le_trans (unhide HB2).size hb6.size)))
    have z1 := (unhide HX6).at 1 _ rfl
    simp only [List.getElem_toArray, List.getElem_cons_zero, List.getElem_cons_succ] at z1
    have L6 := hide (implAssign _ cur _ xs _ (unhide HC2) (unhide HX2))
    rw [show assignR cur xs = ⟨0, placesL cur xs⟩ from if_pos hask] at L6
    clear O R3 L5 hb6 nb6 x10 hask
    go_wp2_with fail
    generalize w6.alloc (.cells #[.int .i64 0, .slice a3 nm c3] 30) = W6 at *
    clear z1
    refine (unhide L6).mono ?_
    rintro e w7 ⟨cs, rfl, O, hb7⟩
    obtain ⟨a4, c4, rfl, R4⟩ := open_IntsResult O.reads
    simp only at R4 ⊢
    rw [places_len] at R4 ⊢
    have nb7 : Below w7.heap.size w7 (w7.alloc (.cells #[.int .i64 0, .slice a4 xs.length c4] 37)) := (Below.refl _ _).alloc (Nat.le_refl _) _
    have x11 : Box 0 #[.int .i64 0, .slice a4 xs.length c4] 37 (w7.alloc (.cells #[.int .i64 0, .slice a4 xs.length c4] 37)) w7.heap.size := newBox (Nat.zero_le _)
    have HX11 := hide x11
    have HP := hide ((Lay.ints_reads R4).later (hb := nb7))
    replace HX6 := hide (((unhide HX6).keep hb7).keep nb7)
    replace HX8 := hide (((unhide HX8).keep hb7).keep nb7)
    replace HX9 := hide (((unhide HX9).keep hb7).keep nb7)
    replace HX10 := hide (((unhide HX10).keep hb7).keep nb7)
    replace HX2 := hide (((unhide HX2).later hb7).later nb7)
    replace HC2 := hide (((unhide HC2).later hb7).later nb7)
    have HBA := hide (((unhide HB2).trans (hb7.mono (unhide HB2).size)).trans (nb7.mono (Nat.le_trans (unhide HB2).size hb7.size)))
    clear O R4 L6 hb7 nb7 x11 HB2
    go_wp2_with fail
    generalize w7.alloc (.cells #[.int .i64 0, .slice a4 xs.length c4] 37) = wz at *
    have KEEP : Hid (∀ W, Below wz.heap.size wz W → W.cell? ⟨w2.heap.size, 1, none⟩ = some (.slice a1 cur.length c1) ∧ W.cell? ⟨w4.heap.size, 0, none⟩ = some (.int .i64 0) ∧ W.cell? ⟨w4.heap.size, 1, none⟩ = some (.int .i64 cS) ∧ W.cell? ⟨w5.heap.size, 0, none⟩ = some (.int .i64 0) ∧ W.cell? ⟨w5.heap.size, 1, none⟩ = some (.int .i64 cT) ∧ W.cell? ⟨w6.heap.size, 0, none⟩ = some (.int .i64 0) ∧ W.cell? ⟨w7.heap.size, 1, none⟩ = some (.slice a4 xs.length c4) ∧ (Lay.sl Lay.tItem).Reads W [.slice ax xs.length cx] xs ∧ (Lay.sl Lay.tCenter).Reads W [.slice a1 cur.length c1] cur) := fun W hW =>
      ⟨((unhide HX6).keep hW).at 1 _ rfl, ((unhide HX8).keep hW).at 0 _ rfl, ((unhide HX8).keep hW).at 1 _ rfl, ((unhide HX9).keep hW).at 0 _ rfl, ((unhide HX9).keep hW).at 1 _ rfl, ((unhide HX10).keep hW).at 0 _ rfl, ((unhide HX11).keep hW).at 1 _ rfl, (unhide HX2).later hW, (unhide HC2).later hW⟩
    have HFC := hide hcf
    have HFT := hide hft
    have hf1 := fun c x => fieldIR1 c x
    clear hcf0 hcf HX6 HX8 HX9 HX10 HX11 HX2 HC2
    go_loopw [12] (fun i wr => ∃ j : Nat, j ≤ xs.length ∧ i = .int .i64 j ∧ Below wz.heap.size wz wr) (fun i _ => xs.length - (intOf i).toNat)
    case atStart => exact ⟨0, Nat.zero_le _, rfl, Below.refl _ _⟩
    case round =>
      obtain ⟨i, hi, rfl, hB⟩ := hrel
      obtain ⟨-, -, -, -, -, -, y11, -, -⟩ := unhide KEEP wr hB
      have HBr := hide hB
      clear hB
      by_cases hlt : i < xs.length
      · obtain ⟨-, -, -, -, -, -, -, hXz, -⟩ := unhide KEEP wz (Below.refl _ _)
        obtain ⟨b, off, rfl, hbl⟩ := Lay.sl_addr hXz (by omega)
        obtain ⟨row, hc, hr⟩ := Lay.row_at hXz hlt
        obtain ⟨a5, d5, rfl, R5⟩ := open_Item hr
        have cx : wz.cell? ⟨b, off + i * 2 + 1, none⟩ = some (.slice a5 (xs[i]).vec.length d5) := hc 1 (by decide)
        have hvx := ((tableFault_zero (unhide HFT)).2.1 xs[i] (List.getElem_mem hlt)).2
        have hpl : 0 < (placesL cur xs).length := by rw [places_len]; omega
        obtain ⟨b4, off4, rfl⟩ := ints_addr (unhide HP) hpl
        have pz := ints_cell (unhide HP) i (by rw [places_len]; exact hlt)
        have hbl4 : b4 < wz.heap.size := World.block_lt_of_cell? _ _ pz
        rw [show (placesL cur xs)[i]'(by rw [places_len]; exact hlt) = (near cur xs[i].vec : Nat) by simp [placesL]] at pz
        have LN : Hid (∀ W, Below wz.heap.size wz W → Calls Try.prog 17 #[.slice a1 cur.length c1, .slice a5 (xs[i]).vec.length d5] W fun e w' => e = .returned (.agg #[.int .i64 0, .int .i64 (near cur (xs[i]).vec : Nat)]) ∧ Below W.heap.size W w') := fun W hW => by
          refine (implNearest _ cur _ (xs[i]).vec W (unhide KEEP W hW).2.2.2.2.2.2.2.2 (R5.later hW)).mono ?_
          rintro e w' ⟨cs, rfl, O, hb⟩
          rw [show nearestR cur (xs[i]).vec = ⟨0, (near cur (xs[i]).vec : Nat)⟩ by rw [nearestR, if_pos (unhide HFC), if_pos hvx]] at O
          obtain ⟨bl, hl⟩ := O.reads
          obtain ⟨rfl, -⟩ := lies_IntResult.1 hl
          exact ⟨rfl, hb⟩
        clear hc hr hXz hvx hpl R5
        generalize xs[i] = x at *
        have hne : (((near cur x.vec : Nat) : Int) != ((near cur x.vec : Nat) : Int)) = false := by simp
        have i1 : (0 : Int) ≤ (i : Int) := by omega
        have i2 : (i : Int) < (xs.length : Int) := by omega
        go_wp2_with fail
        clear y11
        refine wp_region_noPanic ?_
        refine wp_region_held_drew (S := fun w' => Below wz.heap.size wz w') (by kernel_rfl) (unhide HBr).drew (fun hHeld => ?_)
        generalize wr.drew = wD at hHeld ⊢
        refine wpAnyH_take (i := 0) (oi := { dst := some 62, op := Go.Op.fieldAddr 37 (Go.Operand.tmp 11) 1, type := 0, pos := "laws.go:283", after := #[], guard := none }) (v := ?vb0_1) rfl (by kernel_rfl) (by kernel_rfl) (by kernel_rfl) (fun _ _ _ h => h) (Or.inl ⟨by rfl, ?hb0_1⟩) hHeld ?rb0_1
        case hb0_1 =>
          intro wS hSw
          (try dsimp only at hSw)
          go_simp
          try with_reducible rfl
        case rb0_1 =>
        simp only [Act.put, List.setIfInBounds_toArray, List.set_cons_zero, List.set_cons_succ]
        refine wpAnyH_take (i := 1) (oi := { dst := some 63, op := Go.Op.load 25 (Go.Operand.tmp 62), type := 25, pos := "laws.go:283", after := #[{ on := 0, ground := Go.Ground.data }], guard := none }) (v := ?vb1_2) rfl (by kernel_rfl) (by kernel_rfl) (by kernel_rfl) (fun _ _ _ h => h) (Or.inl ⟨by rfl, ?hb1_2⟩) hHeld ?rb1_2
        case hb1_2 =>
          intro wS hSw
          obtain ⟨y6, y8, y8v, y9, y9v, y10, y11, hXi, hCi⟩ := unhide KEEP _ hSw
          clear hSw
          (try dsimp only at hSw)
          go_simp
          try with_reducible rfl
        case rb1_2 =>
        simp only [Act.put, List.setIfInBounds_toArray, List.set_cons_zero, List.set_cons_succ]
        refine wpAnyH_take (i := 2) (oi := { dst := some 64, op := Go.Op.move (Go.Operand.tmp 12), type := 3, pos := "laws.go:283", after := #[], guard := none }) (v := ?vb2_3) rfl (by kernel_rfl) (by kernel_rfl) (by kernel_rfl) (fun _ _ _ h => h) (Or.inl ⟨by rfl, ?hb2_3⟩) hHeld ?rb2_3
        case hb2_3 =>
          intro wS hSw
          (try dsimp only at hSw)
          go_simp
          try with_reducible rfl
        case rb2_3 =>
        simp only [Act.put, List.setIfInBounds_toArray, List.set_cons_zero, List.set_cons_succ]
        refine wpAnyH_take (i := 3) (oi := { dst := some 65, op := Go.Op.indexAddr 25 (Go.Operand.tmp 63) (Go.Operand.tmp 64), type := 0, pos := "laws.go:283", after := #[{ on := 1, ground := Go.Ground.data }, { on := 2, ground := Go.Ground.data }], guard := none }) (v := ?vb3_4) rfl (by kernel_rfl) (by kernel_rfl) (by kernel_rfl) (fun _ _ _ h => h) (Or.inl ⟨by rfl, ?hb3_4⟩) hHeld ?rb3_4
        case hb3_4 =>
          intro wS hSw
          (try dsimp only at hSw)
          go_simp
          try with_reducible rfl
        case rb3_4 =>
        simp only [Act.put, List.setIfInBounds_toArray, List.set_cons_zero, List.set_cons_succ]
        refine wpAnyH_take (i := 4) (oi := { dst := some 66, op := Go.Op.load 2 (Go.Operand.tmp 65), type := 2, pos := "laws.go:283", after := #[{ on := 3, ground := Go.Ground.data }], guard := none }) (v := ?vb4_5) rfl (by kernel_rfl) (by kernel_rfl) (by kernel_rfl) (fun _ _ _ h => h) (Or.inl ⟨by rfl, ?hb4_5⟩) hHeld ?rb4_5
        case hb4_5 =>
          intro wS hSw
          have yp : wS.cell? ⟨b4, off4 + i, none⟩ = some (.int .i64 (near cur x.vec : Nat)) := (hSw.cell (p := ⟨b4, off4 + i, none⟩) hbl4).trans pz
          clear hSw
          (try dsimp only at hSw)
          go_simp
          try with_reducible rfl
        case rb4_5 =>
        simp only [Act.put, List.setIfInBounds_toArray, List.set_cons_zero, List.set_cons_succ]
        refine wpAnyH_take (i := 5) (oi := { dst := some 67, op := Go.Op.fieldAddr 30 (Go.Operand.tmp 6) 1, type := 0, pos := "laws.go:283", after := #[], guard := none }) (v := ?vb5_6) rfl (by kernel_rfl) (by kernel_rfl) (by kernel_rfl) (fun _ _ _ h => h) (Or.inl ⟨by rfl, ?hb5_6⟩) hHeld ?rb5_6
        case hb5_6 =>
          intro wS hSw
          (try dsimp only at hSw)
          go_simp
          try with_reducible rfl
        case rb5_6 =>
        simp only [Act.put, List.setIfInBounds_toArray, List.set_cons_zero, List.set_cons_succ]
        refine wpAnyH_take (i := 6) (oi := { dst := some 68, op := Go.Op.load 28 (Go.Operand.tmp 67), type := 28, pos := "laws.go:283", after := #[{ on := 5, ground := Go.Ground.data }], guard := none }) (v := ?vb6_7) rfl (by kernel_rfl) (by kernel_rfl) (by kernel_rfl) (fun _ _ _ h => h) (Or.inl ⟨by rfl, ?hb6_7⟩) hHeld ?rb6_7
        case hb6_7 =>
          intro wS hSw
          obtain ⟨y6, y8, y8v, y9, y9v, y10, y11, hXi, hCi⟩ := unhide KEEP _ hSw
          clear hSw
          (try dsimp only at hSw)
          go_simp
          try with_reducible rfl
        case rb6_7 =>
        simp only [Act.put, List.setIfInBounds_toArray, List.set_cons_zero, List.set_cons_succ]
        refine wpAnyH_take (i := 7) (oi := { dst := some 69, op := Go.Op.move (Go.Operand.tmp 3), type := 24, pos := "laws.go:283", after := #[], guard := none }) (v := ?vb7_8) rfl (by kernel_rfl) (by kernel_rfl) (by kernel_rfl) (fun _ _ _ h => h) (Or.inl ⟨by rfl, ?hb7_8⟩) hHeld ?rb7_8
        case hb7_8 =>
          intro wS hSw
          (try dsimp only at hSw)
          go_simp
          try with_reducible rfl
        case rb7_8 =>
        simp only [Act.put, List.setIfInBounds_toArray, List.set_cons_zero, List.set_cons_succ]
        refine wpAnyH_take (i := 8) (oi := { dst := some 70, op := Go.Op.move (Go.Operand.tmp 12), type := 3, pos := "laws.go:283", after := #[], guard := none }) (v := ?vb8_9) rfl (by kernel_rfl) (by kernel_rfl) (by kernel_rfl) (fun _ _ _ h => h) (Or.inl ⟨by rfl, ?hb8_9⟩) hHeld ?rb8_9
        case hb8_9 =>
          intro wS hSw
          (try dsimp only at hSw)
          go_simp
          try with_reducible rfl
        case rb8_9 =>
        simp only [Act.put, List.setIfInBounds_toArray, List.set_cons_zero, List.set_cons_succ]
        refine wpAnyH_take (i := 9) (oi := { dst := some 71, op := Go.Op.indexAddr 24 (Go.Operand.tmp 69) (Go.Operand.tmp 70), type := 0, pos := "laws.go:283", after := #[{ on := 7, ground := Go.Ground.data }, { on := 8, ground := Go.Ground.data }], guard := none }) (v := ?vb9_10) rfl (by kernel_rfl) (by kernel_rfl) (by kernel_rfl) (fun _ _ _ h => h) (Or.inl ⟨by rfl, ?hb9_10⟩) hHeld ?rb9_10
        case hb9_10 =>
          intro wS hSw
          (try dsimp only at hSw)
          go_simp
          try with_reducible rfl
        case rb9_10 =>
        simp only [Act.put, List.setIfInBounds_toArray, List.set_cons_zero, List.set_cons_succ]
        refine wpAnyH_take (i := 10) (oi := { dst := some 72, op := Go.Op.fieldAddr 41 (Go.Operand.tmp 71) 1, type := 0, pos := "laws.go:283", after := #[{ on := 9, ground := Go.Ground.data }], guard := none }) (v := ?vb10_11) rfl (by kernel_rfl) (by kernel_rfl) (by kernel_rfl) (fun _ _ _ h => h) (Or.inl ⟨by rfl, ?hb10_11⟩) hHeld ?rb10_11
        case hb10_11 =>
          intro wS hSw
          (try dsimp only at hSw)
          go_simp
          try with_reducible rfl
        case rb10_11 =>
        simp only [Act.put, List.setIfInBounds_toArray, List.set_cons_zero, List.set_cons_succ]
        refine wpAnyH_take (i := 11) (oi := { dst := some 73, op := Go.Op.load 25 (Go.Operand.tmp 72), type := 25, pos := "laws.go:283", after := #[{ on := 10, ground := Go.Ground.data }], guard := none }) (v := ?vb11_12) rfl (by kernel_rfl) (by kernel_rfl) (by kernel_rfl) (fun _ _ _ h => h) (Or.inl ⟨by rfl, ?hb11_12⟩) hHeld ?rb11_12
        case hb11_12 =>
          intro wS hSw
          have yx : wS.cell? ⟨b, off + i * 2 + 1, none⟩ = some (.slice a5 x.vec.length d5) := (hSw.cell (p := ⟨b, off + i * 2 + 1, none⟩) hbl).trans cx
          clear hSw
          (try dsimp only at hSw)
          go_simp
          try with_reducible rfl
        case rb11_12 =>
        simp only [Act.put, List.setIfInBounds_toArray, List.set_cons_zero, List.set_cons_succ]
        refine wpAnyH_ready (rs := [12]) (by kernel_rfl) (by simp) ?_
        refine AllReadyH.cons (o := { dst := some 74, op := Go.Op.call { callee := Go.Callee.value (Go.Operand.func 17), args := #[Go.Operand.tmp 68, Go.Operand.tmp 73], argTypes := #[28, 25] }, type := 33, pos := "laws.go:283", after := #[{ on := 6, ground := Go.Ground.data }, { on := 11, ground := Go.Ground.data }], guard := none }) rfl (fun K hK => ?_) AllReadyH.nil
        go_simp
        go_at_call 17
        refine (unhide LN _ hHeld).mono ?_
        rintro e w3 ⟨rfl, hbw⟩
        try go_wp2_with fail
        refine hK.out _ _ (hHeld.trans (hbw.mono hHeld.size)) (fun hHeld => ?_)
        clear hK K
        try simp only [Act.put, List.setIfInBounds_toArray, List.set_cons_zero, List.set_cons_succ]
        refine wpAnyH_take (i := 13) (oi := { dst := some 75, op := Go.Op.field 33 (Go.Operand.tmp 74) 1, type := 2, pos := "laws.go:283", after := #[{ on := 12, ground := Go.Ground.data }], guard := none }) (v := ?vb13_13) rfl (by kernel_rfl) (by kernel_rfl) (by kernel_rfl) (fun _ _ _ h => h) (Or.inl ⟨by rfl, ?hb13_13⟩) hHeld ?rb13_13
        case hb13_13 =>
          intro wS hSw
          have yf := hf1 0 (near cur x.vec : Nat)
          clear hSw
          (try dsimp only at hSw)
          go_simp
          try with_reducible rfl
        case rb13_13 =>
        simp only [Act.put, List.setIfInBounds_toArray, List.set_cons_zero, List.set_cons_succ]
        refine wpAnyH_take (i := 14) (oi := { dst := some 76, op := Go.Op.binOp Go.BinOp.neq 2 (Go.Operand.tmp 66) (Go.Operand.tmp 75) 2, type := 4, pos := "laws.go:283", after := #[{ on := 4, ground := Go.Ground.data }, { on := 13, ground := Go.Ground.data }], guard := none }) (v := ?vb14_14) rfl (by kernel_rfl) (by kernel_rfl) (by kernel_rfl) (fun _ _ _ h => h) (Or.inl ⟨by rfl, ?hb14_14⟩) hHeld ?rb14_14
        case hb14_14 =>
          intro wS hSw
          (try dsimp only at hSw)
          go_simp
          try with_reducible rfl
        case rb14_14 =>
        simp only [Act.put, List.setIfInBounds_toArray, List.set_cons_zero, List.set_cons_succ]
        refine wpAnyH_done (by kernel_rfl) ?_ _
        refine NoPanic.normal ?_
        have HB9 := hide hHeld
        clear hHeld cx pz
        go_wp2_with fail
        go_roundw
        case rel => exact ⟨i + 1, by omega, by go_num, unhide HB9⟩
        case measure => simp [intOf]; omega
      · obtain rfl : i = xs.length := by omega
        have LF : Hid (∀ W, Below wz.heap.size wz W → Calls Try.prog 18 #[.slice a1 cur.length c1] W fun e w' => e = .returned (.int .i64 0) ∧ Below W.heap.size W w') := fun W hW => by
          have := implCen _ cur W (unhide KEEP W hW).2.2.2.2.2.2.2.2
          rwa [unhide HFC] at this
        have LS : Hid (∀ W, Below wz.heap.size wz W → Calls Try.prog 19 #[.slice a1 cur.length c1, .slice ax xs.length cx] W fun e w' => e = .returned (.agg #[.int .i64 0, .int .i64 cT]) ∧ Below W.heap.size W w') := fun W hW => by
          refine (specCostOf _ cur _ xs W (unhide KEEP W hW).2.2.2.2.2.2.2.2 (unhide KEEP W hW).2.2.2.2.2.2.2.1).mono ?_
          rintro e w' ⟨cs, rfl, O, hb⟩
          rw [show costR cur xs = ⟨0, cT⟩ by rw [costR, if_pos (by rw [askFault, if_pos (unhide HFC)]; exact unhide HFT), unhide HCT]] at O
          obtain ⟨bl, hl⟩ := O.reads
          obtain ⟨rfl, -⟩ := lies_IntResult.1 hl
          exact ⟨rfl, hb⟩
        have e0 : ((0 : Int) == 0) = true := by decide
        have e1 : ((cur.length : Int) == (zs.length : Int)) = true := by rw [beq_iff_eq, unhide HCL]
        have e2 : decide (cT ≤ cS) = true := by simpa using hcc
        have e3 : ((xs.length : Int) == (xs.length : Int)) = true := by simp
        have e4 : (cT == cT) = true := by simp
        clear hlt hcc h0
        go_wp2_with fail
        clear y11
        refine wp_region_noPanic ?_
        refine wp_region_held_drew (S := fun w' => Below wz.heap.size wz w') (by kernel_rfl) (unhide HBr).drew (fun hHeld => ?_)
        generalize wr.drew = wD at hHeld ⊢
        refine wpAnyH_take (i := 0) (oi := { dst := some 77, op := Go.Op.fieldAddr 30 (Go.Operand.tmp 6) 1, type := 0, pos := "laws.go:287", after := #[], guard := none }) (v := ?vc0_1) rfl (by kernel_rfl) (by kernel_rfl) (by kernel_rfl) (fun _ _ _ h => h) (Or.inl ⟨by rfl, ?hc0_1⟩) hHeld ?rc0_1
        case hc0_1 =>
          intro wS hSw
          (try dsimp only at hSw)
          go_simp
          try with_reducible rfl
        case rc0_1 =>
        simp only [Act.put, List.setIfInBounds_toArray, List.set_cons_zero, List.set_cons_succ]
        refine wpAnyH_take (i := 1) (oi := { dst := some 78, op := Go.Op.load 28 (Go.Operand.tmp 77), type := 28, pos := "laws.go:287", after := #[{ on := 0, ground := Go.Ground.data }], guard := none }) (v := ?vc1_2) rfl (by kernel_rfl) (by kernel_rfl) (by kernel_rfl) (fun _ _ _ h => h) (Or.inl ⟨by rfl, ?hc1_2⟩) hHeld ?rc1_2
        case hc1_2 =>
          intro wS hSw
          obtain ⟨y6, y8, y8v, y9, y9v, y10, y11, hXi, hCi⟩ := unhide KEEP _ hSw
          clear hSw
          (try dsimp only at hSw)
          go_simp
          try with_reducible rfl
        case rc1_2 =>
        simp only [Act.put, List.setIfInBounds_toArray, List.set_cons_zero, List.set_cons_succ]
        refine wpAnyH_ready (rs := [2]) (by kernel_rfl) (by simp) ?_
        refine AllReadyH.cons (o := { dst := some 79, op := Go.Op.call { callee := Go.Callee.value (Go.Operand.func 18), args := #[Go.Operand.tmp 78], argTypes := #[28] }, type := 2, pos := "laws.go:287", after := #[{ on := 1, ground := Go.Ground.data }], guard := none }) rfl (fun K hK => ?_) AllReadyH.nil
        go_simp
        go_at_call 18
        refine (unhide LF _ hHeld).mono ?_
        rintro e w3 ⟨rfl, hbw⟩
        try go_wp2_with fail
        refine hK.out _ _ (hHeld.trans (hbw.mono hHeld.size)) (fun hHeld => ?_)
        clear hK K
        try simp only [Act.put, List.setIfInBounds_toArray, List.set_cons_zero, List.set_cons_succ]
        refine wpAnyH_take (i := 3) (oi := { dst := some 80, op := Go.Op.binOp Go.BinOp.eql 2 (Go.Operand.tmp 79) (Go.Operand.const (Go.Value.int Go.IntKind.i64 0)) 2, type := 4, pos := "laws.go:287", after := #[{ on := 2, ground := Go.Ground.data }], guard := none }) (v := ?vc3_3) rfl (by kernel_rfl) (by kernel_rfl) (by kernel_rfl) (fun _ _ _ h => h) (Or.inl ⟨by rfl, ?hc3_3⟩) hHeld ?rc3_3
        case hc3_3 =>
          intro wS hSw
          (try dsimp only at hSw)
          go_simp
          try with_reducible rfl
        case rc3_3 =>
        simp only [Act.put, List.setIfInBounds_toArray, List.set_cons_zero, List.set_cons_succ]
        refine wpAnyH_take (i := 4) (oi := { dst := some 81, op := Go.Op.move (Go.Operand.tmp 80), type := 4, pos := "laws.go:287", after := #[{ on := 3, ground := Go.Ground.data }, { on := 2, ground := Go.Ground.chain }], guard := none }) (v := ?vc4_4) rfl (by kernel_rfl) (by kernel_rfl) (by kernel_rfl) (fun _ _ _ h => h) (Or.inl ⟨by rfl, ?hc4_4⟩) hHeld ?rc4_4
        case hc4_4 =>
          intro wS hSw
          (try dsimp only at hSw)
          go_simp
          try with_reducible rfl
        case rc4_4 =>
        simp only [Act.put, List.setIfInBounds_toArray, List.set_cons_zero, List.set_cons_succ]
        refine wpAnyH_take (i := 5) (oi := { dst := some 82, op := Go.Op.fieldAddr 30 (Go.Operand.tmp 6) 1, type := 0, pos := "laws.go:287", after := #[{ on := 4, ground := Go.Ground.guard }], guard := some (4, true) }) (v := ?vc5_5) rfl (by kernel_rfl) (by kernel_rfl) (by kernel_rfl) (fun _ _ _ h => h) (Or.inl ⟨by rfl, ?hc5_5⟩) hHeld ?rc5_5
        case hc5_5 =>
          intro wS hSw
          (try dsimp only at hSw)
          go_simp
          try with_reducible rfl
        case rc5_5 =>
        simp only [Act.put, List.setIfInBounds_toArray, List.set_cons_zero, List.set_cons_succ]
        refine wpAnyH_take (i := 6) (oi := { dst := some 83, op := Go.Op.load 28 (Go.Operand.tmp 82), type := 28, pos := "laws.go:287", after := #[{ on := 5, ground := Go.Ground.data }, { on := 4, ground := Go.Ground.guard }], guard := some (4, true) }) (v := ?vc6_6) rfl (by kernel_rfl) (by kernel_rfl) (by kernel_rfl) (fun _ _ _ h => h) (Or.inl ⟨by rfl, ?hc6_6⟩) hHeld ?rc6_6
        case hc6_6 =>
          intro wS hSw
          obtain ⟨y6, y8, y8v, y9, y9v, y10, y11, hXi, hCi⟩ := unhide KEEP _ hSw
          clear hSw
          (try dsimp only at hSw)
          go_simp
          try with_reducible rfl
        case rc6_6 =>
        simp only [Act.put, List.setIfInBounds_toArray, List.set_cons_zero, List.set_cons_succ]
        refine wpAnyH_take (i := 7) (oi := { dst := some 84, op := Go.Op.call { callee := Go.Callee.builtin Go.Builtin.len, args := #[Go.Operand.tmp 83], argTypes := #[28] }, type := 3, pos := "laws.go:287", after := #[{ on := 6, ground := Go.Ground.data }, { on := 4, ground := Go.Ground.guard }], guard := some (4, true) }) (v := ?vc7_7) rfl (by kernel_rfl) (by kernel_rfl) (by kernel_rfl) (fun _ _ _ h => h) (Or.inl ⟨by rfl, ?hc7_7⟩) hHeld ?rc7_7
        case hc7_7 =>
          intro wS hSw
          (try dsimp only at hSw)
          go_simp
          try with_reducible rfl
        case rc7_7 =>
        simp only [Act.put, List.setIfInBounds_toArray, List.set_cons_zero, List.set_cons_succ]
        refine wpAnyH_take (i := 8) (oi := { dst := some 85, op := Go.Op.move (Go.Operand.tmp 4), type := 25, pos := "laws.go:287", after := #[{ on := 4, ground := Go.Ground.guard }], guard := some (4, true) }) (v := ?vc8_8) rfl (by kernel_rfl) (by kernel_rfl) (by kernel_rfl) (fun _ _ _ h => h) (Or.inl ⟨by rfl, ?hc8_8⟩) hHeld ?rc8_8
        case hc8_8 =>
          intro wS hSw
          (try dsimp only at hSw)
          go_simp
          try with_reducible rfl
        case rc8_8 =>
        simp only [Act.put, List.setIfInBounds_toArray, List.set_cons_zero, List.set_cons_succ]
        refine wpAnyH_take (i := 9) (oi := { dst := some 86, op := Go.Op.call { callee := Go.Callee.builtin Go.Builtin.len, args := #[Go.Operand.tmp 85], argTypes := #[25] }, type := 3, pos := "laws.go:287", after := #[{ on := 8, ground := Go.Ground.data }, { on := 4, ground := Go.Ground.guard }], guard := some (4, true) }) (v := ?vc9_9) rfl (by kernel_rfl) (by kernel_rfl) (by kernel_rfl) (fun _ _ _ h => h) (Or.inl ⟨by rfl, ?hc9_9⟩) hHeld ?rc9_9
        case hc9_9 =>
          intro wS hSw
          (try dsimp only at hSw)
          go_simp
          try with_reducible rfl
        case rc9_9 =>
        simp only [Act.put, List.setIfInBounds_toArray, List.set_cons_zero, List.set_cons_succ]
        refine wpAnyH_take (i := 10) (oi := { dst := some 87, op := Go.Op.binOp Go.BinOp.eql 3 (Go.Operand.tmp 84) (Go.Operand.tmp 86) 3, type := 4, pos := "laws.go:287", after := #[{ on := 7, ground := Go.Ground.data }, { on := 9, ground := Go.Ground.data }, { on := 4, ground := Go.Ground.guard }], guard := some (4, true) }) (v := ?vc10_10) rfl (by kernel_rfl) (by kernel_rfl) (by kernel_rfl) (fun _ _ _ h => h) (Or.inl ⟨by rfl, ?hc10_10⟩) hHeld ?rc10_10
        case hc10_10 =>
          intro wS hSw
          (try dsimp only at hSw)
          go_simp
          try with_reducible rfl
        case rc10_10 =>
        simp only [Act.put, List.setIfInBounds_toArray, List.set_cons_zero, List.set_cons_succ]
        refine wpAnyH_take (i := 11) (oi := { dst := some 88, op := Go.Op.pick (Go.Operand.tmp 81) (Go.Operand.tmp 87) (Go.Operand.const (Go.Value.bool false)), type := 4, pos := "laws.go:287", after := #[{ on := 4, ground := Go.Ground.data }, { on := 10, ground := Go.Ground.data }], guard := none }) (v := ?vc11_11) rfl (by kernel_rfl) (by kernel_rfl) (by kernel_rfl) (fun _ _ _ h => h) (Or.inl ⟨by rfl, ?hc11_11⟩) hHeld ?rc11_11
        case hc11_11 =>
          intro wS hSw
          (try dsimp only at hSw)
          go_simp
          try with_reducible rfl
        case rc11_11 =>
        simp only [Act.put, List.setIfInBounds_toArray, List.set_cons_zero, List.set_cons_succ]
        refine wpAnyH_take (i := 12) (oi := { dst := some 89, op := Go.Op.move (Go.Operand.tmp 88), type := 4, pos := "laws.go:287", after := #[{ on := 11, ground := Go.Ground.data }, { on := 4, ground := Go.Ground.chain }], guard := none }) (v := ?vc12_12) rfl (by kernel_rfl) (by kernel_rfl) (by kernel_rfl) (fun _ _ _ h => h) (Or.inl ⟨by rfl, ?hc12_12⟩) hHeld ?rc12_12
        case hc12_12 =>
          intro wS hSw
          (try dsimp only at hSw)
          go_simp
          try with_reducible rfl
        case rc12_12 =>
        simp only [Act.put, List.setIfInBounds_toArray, List.set_cons_zero, List.set_cons_succ]
        refine wpAnyH_take (i := 13) (oi := { dst := some 90, op := Go.Op.fieldAddr 33 (Go.Operand.tmp 8) 0, type := 0, pos := "laws.go:287", after := #[{ on := 12, ground := Go.Ground.guard }], guard := some (12, true) }) (v := ?vc13_13) rfl (by kernel_rfl) (by kernel_rfl) (by kernel_rfl) (fun _ _ _ h => h) (Or.inl ⟨by rfl, ?hc13_13⟩) hHeld ?rc13_13
        case hc13_13 =>
          intro wS hSw
          (try dsimp only at hSw)
          go_simp
          try with_reducible rfl
        case rc13_13 =>
        simp only [Act.put, List.setIfInBounds_toArray, List.set_cons_zero, List.set_cons_succ]
        refine wpAnyH_take (i := 14) (oi := { dst := some 91, op := Go.Op.load 2 (Go.Operand.tmp 90), type := 2, pos := "laws.go:287", after := #[{ on := 13, ground := Go.Ground.data }, { on := 12, ground := Go.Ground.guard }], guard := some (12, true) }) (v := ?vc14_14) rfl (by kernel_rfl) (by kernel_rfl) (by kernel_rfl) (fun _ _ _ h => h) (Or.inl ⟨by rfl, ?hc14_14⟩) hHeld ?rc14_14
        case hc14_14 =>
          intro wS hSw
          obtain ⟨y6, y8, y8v, y9, y9v, y10, y11, hXi, hCi⟩ := unhide KEEP _ hSw
          clear hSw
          (try dsimp only at hSw)
          go_simp
          try with_reducible rfl
        case rc14_14 =>
        simp only [Act.put, List.setIfInBounds_toArray, List.set_cons_zero, List.set_cons_succ]
        refine wpAnyH_take (i := 15) (oi := { dst := some 92, op := Go.Op.binOp Go.BinOp.eql 2 (Go.Operand.tmp 91) (Go.Operand.const (Go.Value.int Go.IntKind.i64 0)) 2, type := 4, pos := "laws.go:287", after := #[{ on := 14, ground := Go.Ground.data }, { on := 12, ground := Go.Ground.guard }], guard := some (12, true) }) (v := ?vc15_15) rfl (by kernel_rfl) (by kernel_rfl) (by kernel_rfl) (fun _ _ _ h => h) (Or.inl ⟨by rfl, ?hc15_15⟩) hHeld ?rc15_15
        case hc15_15 =>
          intro wS hSw
          (try dsimp only at hSw)
          go_simp
          try with_reducible rfl
        case rc15_15 =>
        simp only [Act.put, List.setIfInBounds_toArray, List.set_cons_zero, List.set_cons_succ]
        refine wpAnyH_take (i := 16) (oi := { dst := some 93, op := Go.Op.pick (Go.Operand.tmp 89) (Go.Operand.tmp 92) (Go.Operand.const (Go.Value.bool false)), type := 4, pos := "laws.go:287", after := #[{ on := 12, ground := Go.Ground.data }, { on := 15, ground := Go.Ground.data }], guard := none }) (v := ?vc16_16) rfl (by kernel_rfl) (by kernel_rfl) (by kernel_rfl) (fun _ _ _ h => h) (Or.inl ⟨by rfl, ?hc16_16⟩) hHeld ?rc16_16
        case hc16_16 =>
          intro wS hSw
          (try dsimp only at hSw)
          go_simp
          try with_reducible rfl
        case rc16_16 =>
        simp only [Act.put, List.setIfInBounds_toArray, List.set_cons_zero, List.set_cons_succ]
        refine wpAnyH_take (i := 17) (oi := { dst := some 94, op := Go.Op.move (Go.Operand.tmp 93), type := 4, pos := "laws.go:287", after := #[{ on := 16, ground := Go.Ground.data }, { on := 12, ground := Go.Ground.chain }], guard := none }) (v := ?vc17_17) rfl (by kernel_rfl) (by kernel_rfl) (by kernel_rfl) (fun _ _ _ h => h) (Or.inl ⟨by rfl, ?hc17_17⟩) hHeld ?rc17_17
        case hc17_17 =>
          intro wS hSw
          (try dsimp only at hSw)
          go_simp
          try with_reducible rfl
        case rc17_17 =>
        simp only [Act.put, List.setIfInBounds_toArray, List.set_cons_zero, List.set_cons_succ]
        refine wpAnyH_take (i := 18) (oi := { dst := some 95, op := Go.Op.fieldAddr 33 (Go.Operand.tmp 9) 0, type := 0, pos := "laws.go:287", after := #[{ on := 17, ground := Go.Ground.guard }], guard := some (17, true) }) (v := ?vc18_18) rfl (by kernel_rfl) (by kernel_rfl) (by kernel_rfl) (fun _ _ _ h => h) (Or.inl ⟨by rfl, ?hc18_18⟩) hHeld ?rc18_18
        case hc18_18 =>
          intro wS hSw
          (try dsimp only at hSw)
          go_simp
          try with_reducible rfl
        case rc18_18 =>
        simp only [Act.put, List.setIfInBounds_toArray, List.set_cons_zero, List.set_cons_succ]
        refine wpAnyH_take (i := 19) (oi := { dst := some 96, op := Go.Op.load 2 (Go.Operand.tmp 95), type := 2, pos := "laws.go:287", after := #[{ on := 18, ground := Go.Ground.data }, { on := 17, ground := Go.Ground.guard }], guard := some (17, true) }) (v := ?vc19_19) rfl (by kernel_rfl) (by kernel_rfl) (by kernel_rfl) (fun _ _ _ h => h) (Or.inl ⟨by rfl, ?hc19_19⟩) hHeld ?rc19_19
        case hc19_19 =>
          intro wS hSw
          obtain ⟨y6, y8, y8v, y9, y9v, y10, y11, hXi, hCi⟩ := unhide KEEP _ hSw
          clear hSw
          (try dsimp only at hSw)
          go_simp
          try with_reducible rfl
        case rc19_19 =>
        simp only [Act.put, List.setIfInBounds_toArray, List.set_cons_zero, List.set_cons_succ]
        refine wpAnyH_take (i := 20) (oi := { dst := some 97, op := Go.Op.binOp Go.BinOp.eql 2 (Go.Operand.tmp 96) (Go.Operand.const (Go.Value.int Go.IntKind.i64 0)) 2, type := 4, pos := "laws.go:287", after := #[{ on := 19, ground := Go.Ground.data }, { on := 17, ground := Go.Ground.guard }], guard := some (17, true) }) (v := ?vc20_20) rfl (by kernel_rfl) (by kernel_rfl) (by kernel_rfl) (fun _ _ _ h => h) (Or.inl ⟨by rfl, ?hc20_20⟩) hHeld ?rc20_20
        case hc20_20 =>
          intro wS hSw
          (try dsimp only at hSw)
          go_simp
          try with_reducible rfl
        case rc20_20 =>
        simp only [Act.put, List.setIfInBounds_toArray, List.set_cons_zero, List.set_cons_succ]
        refine wpAnyH_take (i := 21) (oi := { dst := some 98, op := Go.Op.pick (Go.Operand.tmp 94) (Go.Operand.tmp 97) (Go.Operand.const (Go.Value.bool false)), type := 4, pos := "laws.go:287", after := #[{ on := 17, ground := Go.Ground.data }, { on := 20, ground := Go.Ground.data }], guard := none }) (v := ?vc21_21) rfl (by kernel_rfl) (by kernel_rfl) (by kernel_rfl) (fun _ _ _ h => h) (Or.inl ⟨by rfl, ?hc21_21⟩) hHeld ?rc21_21
        case hc21_21 =>
          intro wS hSw
          (try dsimp only at hSw)
          go_simp
          try with_reducible rfl
        case rc21_21 =>
        simp only [Act.put, List.setIfInBounds_toArray, List.set_cons_zero, List.set_cons_succ]
        refine wpAnyH_take (i := 22) (oi := { dst := some 99, op := Go.Op.move (Go.Operand.tmp 98), type := 4, pos := "laws.go:287", after := #[{ on := 21, ground := Go.Ground.data }, { on := 17, ground := Go.Ground.chain }], guard := none }) (v := ?vc22_22) rfl (by kernel_rfl) (by kernel_rfl) (by kernel_rfl) (fun _ _ _ h => h) (Or.inl ⟨by rfl, ?hc22_22⟩) hHeld ?rc22_22
        case hc22_22 =>
          intro wS hSw
          (try dsimp only at hSw)
          go_simp
          try with_reducible rfl
        case rc22_22 =>
        simp only [Act.put, List.setIfInBounds_toArray, List.set_cons_zero, List.set_cons_succ]
        refine wpAnyH_take (i := 23) (oi := { dst := some 100, op := Go.Op.fieldAddr 33 (Go.Operand.tmp 9) 1, type := 0, pos := "laws.go:287", after := #[{ on := 22, ground := Go.Ground.guard }], guard := some (22, true) }) (v := ?vc23_23) rfl (by kernel_rfl) (by kernel_rfl) (by kernel_rfl) (fun _ _ _ h => h) (Or.inl ⟨by rfl, ?hc23_23⟩) hHeld ?rc23_23
        case hc23_23 =>
          intro wS hSw
          (try dsimp only at hSw)
          go_simp
          try with_reducible rfl
        case rc23_23 =>
        simp only [Act.put, List.setIfInBounds_toArray, List.set_cons_zero, List.set_cons_succ]
        refine wpAnyH_take (i := 24) (oi := { dst := some 101, op := Go.Op.load 2 (Go.Operand.tmp 100), type := 2, pos := "laws.go:287", after := #[{ on := 23, ground := Go.Ground.data }, { on := 22, ground := Go.Ground.guard }], guard := some (22, true) }) (v := ?vc24_24) rfl (by kernel_rfl) (by kernel_rfl) (by kernel_rfl) (fun _ _ _ h => h) (Or.inl ⟨by rfl, ?hc24_24⟩) hHeld ?rc24_24
        case hc24_24 =>
          intro wS hSw
          obtain ⟨y6, y8, y8v, y9, y9v, y10, y11, hXi, hCi⟩ := unhide KEEP _ hSw
          clear hSw
          (try dsimp only at hSw)
          go_simp
          try with_reducible rfl
        case rc24_24 =>
        simp only [Act.put, List.setIfInBounds_toArray, List.set_cons_zero, List.set_cons_succ]
        refine wpAnyH_take (i := 25) (oi := { dst := some 102, op := Go.Op.fieldAddr 33 (Go.Operand.tmp 8) 1, type := 0, pos := "laws.go:287", after := #[{ on := 22, ground := Go.Ground.guard }], guard := some (22, true) }) (v := ?vc25_25) rfl (by kernel_rfl) (by kernel_rfl) (by kernel_rfl) (fun _ _ _ h => h) (Or.inl ⟨by rfl, ?hc25_25⟩) hHeld ?rc25_25
        case hc25_25 =>
          intro wS hSw
          (try dsimp only at hSw)
          go_simp
          try with_reducible rfl
        case rc25_25 =>
        simp only [Act.put, List.setIfInBounds_toArray, List.set_cons_zero, List.set_cons_succ]
        refine wpAnyH_take (i := 26) (oi := { dst := some 103, op := Go.Op.load 2 (Go.Operand.tmp 102), type := 2, pos := "laws.go:287", after := #[{ on := 25, ground := Go.Ground.data }, { on := 22, ground := Go.Ground.guard }], guard := some (22, true) }) (v := ?vc26_26) rfl (by kernel_rfl) (by kernel_rfl) (by kernel_rfl) (fun _ _ _ h => h) (Or.inl ⟨by rfl, ?hc26_26⟩) hHeld ?rc26_26
        case hc26_26 =>
          intro wS hSw
          obtain ⟨y6, y8, y8v, y9, y9v, y10, y11, hXi, hCi⟩ := unhide KEEP _ hSw
          clear hSw
          (try dsimp only at hSw)
          go_simp
          try with_reducible rfl
        case rc26_26 =>
        simp only [Act.put, List.setIfInBounds_toArray, List.set_cons_zero, List.set_cons_succ]
        refine wpAnyH_take (i := 27) (oi := { dst := some 104, op := Go.Op.binOp Go.BinOp.leq 2 (Go.Operand.tmp 101) (Go.Operand.tmp 103) 2, type := 4, pos := "laws.go:287", after := #[{ on := 24, ground := Go.Ground.data }, { on := 26, ground := Go.Ground.data }, { on := 22, ground := Go.Ground.guard }], guard := some (22, true) }) (v := ?vc27_27) rfl (by kernel_rfl) (by kernel_rfl) (by kernel_rfl) (fun _ _ _ h => h) (Or.inl ⟨by rfl, ?hc27_27⟩) hHeld ?rc27_27
        case hc27_27 =>
          intro wS hSw
          (try dsimp only at hSw)
          go_simp
          try with_reducible rfl
        case rc27_27 =>
        simp only [Act.put, List.setIfInBounds_toArray, List.set_cons_zero, List.set_cons_succ]
        refine wpAnyH_take (i := 28) (oi := { dst := some 105, op := Go.Op.pick (Go.Operand.tmp 99) (Go.Operand.tmp 104) (Go.Operand.const (Go.Value.bool false)), type := 4, pos := "laws.go:287", after := #[{ on := 22, ground := Go.Ground.data }, { on := 27, ground := Go.Ground.data }], guard := none }) (v := ?vc28_28) rfl (by kernel_rfl) (by kernel_rfl) (by kernel_rfl) (fun _ _ _ h => h) (Or.inl ⟨by rfl, ?hc28_28⟩) hHeld ?rc28_28
        case hc28_28 =>
          intro wS hSw
          (try dsimp only at hSw)
          go_simp
          try with_reducible rfl
        case rc28_28 =>
        simp only [Act.put, List.setIfInBounds_toArray, List.set_cons_zero, List.set_cons_succ]
        refine wpAnyH_take (i := 29) (oi := { dst := some 106, op := Go.Op.move (Go.Operand.tmp 105), type := 4, pos := "laws.go:287", after := #[{ on := 28, ground := Go.Ground.data }, { on := 22, ground := Go.Ground.chain }], guard := none }) (v := ?vc29_29) rfl (by kernel_rfl) (by kernel_rfl) (by kernel_rfl) (fun _ _ _ h => h) (Or.inl ⟨by rfl, ?hc29_29⟩) hHeld ?rc29_29
        case hc29_29 =>
          intro wS hSw
          (try dsimp only at hSw)
          go_simp
          try with_reducible rfl
        case rc29_29 =>
        simp only [Act.put, List.setIfInBounds_toArray, List.set_cons_zero, List.set_cons_succ]
        refine wpAnyH_take (i := 30) (oi := { dst := some 107, op := Go.Op.fieldAddr 30 (Go.Operand.tmp 10) 0, type := 0, pos := "laws.go:287", after := #[{ on := 29, ground := Go.Ground.guard }], guard := some (29, true) }) (v := ?vc30_30) rfl (by kernel_rfl) (by kernel_rfl) (by kernel_rfl) (fun _ _ _ h => h) (Or.inl ⟨by rfl, ?hc30_30⟩) hHeld ?rc30_30
        case hc30_30 =>
          intro wS hSw
          (try dsimp only at hSw)
          go_simp
          try with_reducible rfl
        case rc30_30 =>
        simp only [Act.put, List.setIfInBounds_toArray, List.set_cons_zero, List.set_cons_succ]
        refine wpAnyH_take (i := 31) (oi := { dst := some 108, op := Go.Op.load 2 (Go.Operand.tmp 107), type := 2, pos := "laws.go:287", after := #[{ on := 30, ground := Go.Ground.data }, { on := 29, ground := Go.Ground.guard }], guard := some (29, true) }) (v := ?vc31_31) rfl (by kernel_rfl) (by kernel_rfl) (by kernel_rfl) (fun _ _ _ h => h) (Or.inl ⟨by rfl, ?hc31_31⟩) hHeld ?rc31_31
        case hc31_31 =>
          intro wS hSw
          obtain ⟨y6, y8, y8v, y9, y9v, y10, y11, hXi, hCi⟩ := unhide KEEP _ hSw
          clear hSw
          (try dsimp only at hSw)
          go_simp
          try with_reducible rfl
        case rc31_31 =>
        simp only [Act.put, List.setIfInBounds_toArray, List.set_cons_zero, List.set_cons_succ]
        refine wpAnyH_take (i := 32) (oi := { dst := some 109, op := Go.Op.binOp Go.BinOp.eql 2 (Go.Operand.tmp 108) (Go.Operand.const (Go.Value.int Go.IntKind.i64 0)) 2, type := 4, pos := "laws.go:287", after := #[{ on := 31, ground := Go.Ground.data }, { on := 29, ground := Go.Ground.guard }], guard := some (29, true) }) (v := ?vc32_32) rfl (by kernel_rfl) (by kernel_rfl) (by kernel_rfl) (fun _ _ _ h => h) (Or.inl ⟨by rfl, ?hc32_32⟩) hHeld ?rc32_32
        case hc32_32 =>
          intro wS hSw
          (try dsimp only at hSw)
          go_simp
          try with_reducible rfl
        case rc32_32 =>
        simp only [Act.put, List.setIfInBounds_toArray, List.set_cons_zero, List.set_cons_succ]
        refine wpAnyH_take (i := 33) (oi := { dst := some 110, op := Go.Op.pick (Go.Operand.tmp 106) (Go.Operand.tmp 109) (Go.Operand.const (Go.Value.bool false)), type := 4, pos := "laws.go:287", after := #[{ on := 29, ground := Go.Ground.data }, { on := 32, ground := Go.Ground.data }], guard := none }) (v := ?vc33_33) rfl (by kernel_rfl) (by kernel_rfl) (by kernel_rfl) (fun _ _ _ h => h) (Or.inl ⟨by rfl, ?hc33_33⟩) hHeld ?rc33_33
        case hc33_33 =>
          intro wS hSw
          (try dsimp only at hSw)
          go_simp
          try with_reducible rfl
        case rc33_33 =>
        simp only [Act.put, List.setIfInBounds_toArray, List.set_cons_zero, List.set_cons_succ]
        refine wpAnyH_take (i := 34) (oi := { dst := some 111, op := Go.Op.move (Go.Operand.tmp 110), type := 4, pos := "laws.go:287", after := #[{ on := 33, ground := Go.Ground.data }, { on := 29, ground := Go.Ground.chain }], guard := none }) (v := ?vc34_34) rfl (by kernel_rfl) (by kernel_rfl) (by kernel_rfl) (fun _ _ _ h => h) (Or.inl ⟨by rfl, ?hc34_34⟩) hHeld ?rc34_34
        case hc34_34 =>
          intro wS hSw
          (try dsimp only at hSw)
          go_simp
          try with_reducible rfl
        case rc34_34 =>
        simp only [Act.put, List.setIfInBounds_toArray, List.set_cons_zero, List.set_cons_succ]
        refine wpAnyH_take (i := 35) (oi := { dst := some 112, op := Go.Op.fieldAddr 37 (Go.Operand.tmp 11) 1, type := 0, pos := "laws.go:287", after := #[{ on := 34, ground := Go.Ground.guard }], guard := some (34, true) }) (v := ?vc35_35) rfl (by kernel_rfl) (by kernel_rfl) (by kernel_rfl) (fun _ _ _ h => h) (Or.inl ⟨by rfl, ?hc35_35⟩) hHeld ?rc35_35
        case hc35_35 =>
          intro wS hSw
          (try dsimp only at hSw)
          go_simp
          try with_reducible rfl
        case rc35_35 =>
        simp only [Act.put, List.setIfInBounds_toArray, List.set_cons_zero, List.set_cons_succ]
        refine wpAnyH_take (i := 36) (oi := { dst := some 113, op := Go.Op.load 25 (Go.Operand.tmp 112), type := 25, pos := "laws.go:287", after := #[{ on := 35, ground := Go.Ground.data }, { on := 34, ground := Go.Ground.guard }], guard := some (34, true) }) (v := ?vc36_36) rfl (by kernel_rfl) (by kernel_rfl) (by kernel_rfl) (fun _ _ _ h => h) (Or.inl ⟨by rfl, ?hc36_36⟩) hHeld ?rc36_36
        case hc36_36 =>
          intro wS hSw
          obtain ⟨y6, y8, y8v, y9, y9v, y10, y11, hXi, hCi⟩ := unhide KEEP _ hSw
          clear hSw
          (try dsimp only at hSw)
          go_simp
          try with_reducible rfl
        case rc36_36 =>
        simp only [Act.put, List.setIfInBounds_toArray, List.set_cons_zero, List.set_cons_succ]
        refine wpAnyH_take (i := 37) (oi := { dst := some 114, op := Go.Op.call { callee := Go.Callee.builtin Go.Builtin.len, args := #[Go.Operand.tmp 113], argTypes := #[25] }, type := 3, pos := "laws.go:287", after := #[{ on := 36, ground := Go.Ground.data }, { on := 34, ground := Go.Ground.guard }], guard := some (34, true) }) (v := ?vc37_37) rfl (by kernel_rfl) (by kernel_rfl) (by kernel_rfl) (fun _ _ _ h => h) (Or.inl ⟨by rfl, ?hc37_37⟩) hHeld ?rc37_37
        case hc37_37 =>
          intro wS hSw
          (try dsimp only at hSw)
          go_simp
          try with_reducible rfl
        case rc37_37 =>
        simp only [Act.put, List.setIfInBounds_toArray, List.set_cons_zero, List.set_cons_succ]
        refine wpAnyH_take (i := 38) (oi := { dst := some 115, op := Go.Op.move (Go.Operand.tmp 3), type := 24, pos := "laws.go:287", after := #[{ on := 34, ground := Go.Ground.guard }], guard := some (34, true) }) (v := ?vc38_38) rfl (by kernel_rfl) (by kernel_rfl) (by kernel_rfl) (fun _ _ _ h => h) (Or.inl ⟨by rfl, ?hc38_38⟩) hHeld ?rc38_38
        case hc38_38 =>
          intro wS hSw
          (try dsimp only at hSw)
          go_simp
          try with_reducible rfl
        case rc38_38 =>
        simp only [Act.put, List.setIfInBounds_toArray, List.set_cons_zero, List.set_cons_succ]
        refine wpAnyH_take (i := 39) (oi := { dst := some 116, op := Go.Op.call { callee := Go.Callee.builtin Go.Builtin.len, args := #[Go.Operand.tmp 115], argTypes := #[24] }, type := 3, pos := "laws.go:287", after := #[{ on := 38, ground := Go.Ground.data }, { on := 34, ground := Go.Ground.guard }], guard := some (34, true) }) (v := ?vc39_39) rfl (by kernel_rfl) (by kernel_rfl) (by kernel_rfl) (fun _ _ _ h => h) (Or.inl ⟨by rfl, ?hc39_39⟩) hHeld ?rc39_39
        case hc39_39 =>
          intro wS hSw
          (try dsimp only at hSw)
          go_simp
          try with_reducible rfl
        case rc39_39 =>
        simp only [Act.put, List.setIfInBounds_toArray, List.set_cons_zero, List.set_cons_succ]
        refine wpAnyH_take (i := 40) (oi := { dst := some 117, op := Go.Op.binOp Go.BinOp.eql 3 (Go.Operand.tmp 114) (Go.Operand.tmp 116) 3, type := 4, pos := "laws.go:287", after := #[{ on := 37, ground := Go.Ground.data }, { on := 39, ground := Go.Ground.data }, { on := 34, ground := Go.Ground.guard }], guard := some (34, true) }) (v := ?vc40_40) rfl (by kernel_rfl) (by kernel_rfl) (by kernel_rfl) (fun _ _ _ h => h) (Or.inl ⟨by rfl, ?hc40_40⟩) hHeld ?rc40_40
        case hc40_40 =>
          intro wS hSw
          (try dsimp only at hSw)
          go_simp
          try with_reducible rfl
        case rc40_40 =>
        simp only [Act.put, List.setIfInBounds_toArray, List.set_cons_zero, List.set_cons_succ]
        refine wpAnyH_take (i := 41) (oi := { dst := some 118, op := Go.Op.pick (Go.Operand.tmp 111) (Go.Operand.tmp 117) (Go.Operand.const (Go.Value.bool false)), type := 4, pos := "laws.go:287", after := #[{ on := 34, ground := Go.Ground.data }, { on := 40, ground := Go.Ground.data }], guard := none }) (v := ?vc41_41) rfl (by kernel_rfl) (by kernel_rfl) (by kernel_rfl) (fun _ _ _ h => h) (Or.inl ⟨by rfl, ?hc41_41⟩) hHeld ?rc41_41
        case hc41_41 =>
          intro wS hSw
          (try dsimp only at hSw)
          go_simp
          try with_reducible rfl
        case rc41_41 =>
        simp only [Act.put, List.setIfInBounds_toArray, List.set_cons_zero, List.set_cons_succ]
        refine wpAnyH_take (i := 42) (oi := { dst := some 119, op := Go.Op.move (Go.Operand.tmp 118), type := 4, pos := "laws.go:287", after := #[{ on := 41, ground := Go.Ground.data }, { on := 34, ground := Go.Ground.chain }], guard := none }) (v := ?vc42_42) rfl (by kernel_rfl) (by kernel_rfl) (by kernel_rfl) (fun _ _ _ h => h) (Or.inl ⟨by rfl, ?hc42_42⟩) hHeld ?rc42_42
        case hc42_42 =>
          intro wS hSw
          (try dsimp only at hSw)
          go_simp
          try with_reducible rfl
        case rc42_42 =>
        simp only [Act.put, List.setIfInBounds_toArray, List.set_cons_zero, List.set_cons_succ]
        refine wpAnyH_take (i := 43) (oi := { dst := some 120, op := Go.Op.fieldAddr 33 (Go.Operand.tmp 9) 1, type := 0, pos := "laws.go:287", after := #[{ on := 42, ground := Go.Ground.guard }], guard := some (42, true) }) (v := ?vc43_43) rfl (by kernel_rfl) (by kernel_rfl) (by kernel_rfl) (fun _ _ _ h => h) (Or.inl ⟨by rfl, ?hc43_43⟩) hHeld ?rc43_43
        case hc43_43 =>
          intro wS hSw
          (try dsimp only at hSw)
          go_simp
          try with_reducible rfl
        case rc43_43 =>
        simp only [Act.put, List.setIfInBounds_toArray, List.set_cons_zero, List.set_cons_succ]
        refine wpAnyH_take (i := 44) (oi := { dst := some 121, op := Go.Op.load 2 (Go.Operand.tmp 120), type := 2, pos := "laws.go:287", after := #[{ on := 43, ground := Go.Ground.data }, { on := 42, ground := Go.Ground.guard }], guard := some (42, true) }) (v := ?vc44_44) rfl (by kernel_rfl) (by kernel_rfl) (by kernel_rfl) (fun _ _ _ h => h) (Or.inl ⟨by rfl, ?hc44_44⟩) hHeld ?rc44_44
        case hc44_44 =>
          intro wS hSw
          obtain ⟨y6, y8, y8v, y9, y9v, y10, y11, hXi, hCi⟩ := unhide KEEP _ hSw
          clear hSw
          (try dsimp only at hSw)
          go_simp
          try with_reducible rfl
        case rc44_44 =>
        simp only [Act.put, List.setIfInBounds_toArray, List.set_cons_zero, List.set_cons_succ]
        refine wpAnyH_take (i := 45) (oi := { dst := some 122, op := Go.Op.fieldAddr 30 (Go.Operand.tmp 6) 1, type := 0, pos := "laws.go:287", after := #[{ on := 42, ground := Go.Ground.guard }], guard := some (42, true) }) (v := ?vc45_45) rfl (by kernel_rfl) (by kernel_rfl) (by kernel_rfl) (fun _ _ _ h => h) (Or.inl ⟨by rfl, ?hc45_45⟩) hHeld ?rc45_45
        case hc45_45 =>
          intro wS hSw
          (try dsimp only at hSw)
          go_simp
          try with_reducible rfl
        case rc45_45 =>
        simp only [Act.put, List.setIfInBounds_toArray, List.set_cons_zero, List.set_cons_succ]
        refine wpAnyH_take (i := 46) (oi := { dst := some 123, op := Go.Op.load 28 (Go.Operand.tmp 122), type := 28, pos := "laws.go:287", after := #[{ on := 45, ground := Go.Ground.data }, { on := 42, ground := Go.Ground.guard }], guard := some (42, true) }) (v := ?vc46_46) rfl (by kernel_rfl) (by kernel_rfl) (by kernel_rfl) (fun _ _ _ h => h) (Or.inl ⟨by rfl, ?hc46_46⟩) hHeld ?rc46_46
        case hc46_46 =>
          intro wS hSw
          obtain ⟨y6, y8, y8v, y9, y9v, y10, y11, hXi, hCi⟩ := unhide KEEP _ hSw
          clear hSw
          (try dsimp only at hSw)
          go_simp
          try with_reducible rfl
        case rc46_46 =>
        simp only [Act.put, List.setIfInBounds_toArray, List.set_cons_zero, List.set_cons_succ]
        refine wpAnyH_take (i := 47) (oi := { dst := some 124, op := Go.Op.move (Go.Operand.tmp 3), type := 24, pos := "laws.go:287", after := #[{ on := 42, ground := Go.Ground.guard }], guard := some (42, true) }) (v := ?vc47_47) rfl (by kernel_rfl) (by kernel_rfl) (by kernel_rfl) (fun _ _ _ h => h) (Or.inl ⟨by rfl, ?hc47_47⟩) hHeld ?rc47_47
        case hc47_47 =>
          intro wS hSw
          (try dsimp only at hSw)
          go_simp
          try with_reducible rfl
        case rc47_47 =>
        simp only [Act.put, List.setIfInBounds_toArray, List.set_cons_zero, List.set_cons_succ]
        refine wpAnyH_ready (rs := [48]) (by kernel_rfl) (by simp) ?_
        refine AllReadyH.cons (o := { dst := some 125, op := Go.Op.call { callee := Go.Callee.value (Go.Operand.func 19), args := #[Go.Operand.tmp 123, Go.Operand.tmp 124], argTypes := #[28, 24] }, type := 33, pos := "laws.go:287", after := #[{ on := 46, ground := Go.Ground.data }, { on := 47, ground := Go.Ground.data }, { on := 42, ground := Go.Ground.chain }, { on := 42, ground := Go.Ground.guard }], guard := some (42, true) }) rfl (fun K hK => ?_) AllReadyH.nil
        go_simp
        go_at_call 19
        refine (unhide LS _ hHeld).mono ?_
        rintro e w4 ⟨rfl, hbw⟩
        try go_wp2_with fail
        refine hK.out _ _ (hHeld.trans (hbw.mono hHeld.size)) (fun hHeld => ?_)
        clear hK K
        try simp only [Act.put, List.setIfInBounds_toArray, List.set_cons_zero, List.set_cons_succ]
        refine wpAnyH_take (i := 49) (oi := { dst := some 126, op := Go.Op.field 33 (Go.Operand.tmp 125) 1, type := 2, pos := "laws.go:287", after := #[{ on := 48, ground := Go.Ground.data }, { on := 42, ground := Go.Ground.guard }], guard := some (42, true) }) (v := ?vc49_48) rfl (by kernel_rfl) (by kernel_rfl) (by kernel_rfl) (fun _ _ _ h => h) (Or.inl ⟨by rfl, ?hc49_48⟩) hHeld ?rc49_48
        case hc49_48 =>
          intro wS hSw
          have yf := hf1 0 cT
          clear hSw
          (try dsimp only at hSw)
          go_simp
          try with_reducible rfl
        case rc49_48 =>
        simp only [Act.put, List.setIfInBounds_toArray, List.set_cons_zero, List.set_cons_succ]
        refine wpAnyH_take (i := 50) (oi := { dst := some 127, op := Go.Op.binOp Go.BinOp.eql 2 (Go.Operand.tmp 121) (Go.Operand.tmp 126) 2, type := 4, pos := "laws.go:287", after := #[{ on := 44, ground := Go.Ground.data }, { on := 49, ground := Go.Ground.data }, { on := 42, ground := Go.Ground.guard }], guard := some (42, true) }) (v := ?vc50_49) rfl (by kernel_rfl) (by kernel_rfl) (by kernel_rfl) (fun _ _ _ h => h) (Or.inl ⟨by rfl, ?hc50_49⟩) hHeld ?rc50_49
        case hc50_49 =>
          intro wS hSw
          (try dsimp only at hSw)
          go_simp
          try with_reducible rfl
        case rc50_49 =>
        simp only [Act.put, List.setIfInBounds_toArray, List.set_cons_zero, List.set_cons_succ]
        refine wpAnyH_take (i := 51) (oi := { dst := some 128, op := Go.Op.pick (Go.Operand.tmp 119) (Go.Operand.tmp 127) (Go.Operand.const (Go.Value.bool false)), type := 4, pos := "laws.go:287", after := #[{ on := 42, ground := Go.Ground.data }, { on := 50, ground := Go.Ground.data }], guard := none }) (v := ?vc51_50) rfl (by kernel_rfl) (by kernel_rfl) (by kernel_rfl) (fun _ _ _ h => h) (Or.inl ⟨by rfl, ?hc51_50⟩) hHeld ?rc51_50
        case hc51_50 =>
          intro wS hSw
          (try dsimp only at hSw)
          go_simp
          try with_reducible rfl
        case rc51_50 =>
        simp only [Act.put, List.setIfInBounds_toArray, List.set_cons_zero, List.set_cons_succ]
        refine wpAnyH_take (i := 52) (oi := { dst := some 2, op := Go.Op.assign (Go.Operand.tmp 128), type := 4, pos := "laws.go:287", after := #[{ on := 51, ground := Go.Ground.data }, { on := 48, ground := Go.Ground.chain }, { on := 0, ground := Go.Ground.phase }, { on := 1, ground := Go.Ground.phase }, { on := 2, ground := Go.Ground.phase }, { on := 3, ground := Go.Ground.phase }, { on := 4, ground := Go.Ground.phase }, { on := 5, ground := Go.Ground.phase }, { on := 6, ground := Go.Ground.phase }, { on := 7, ground := Go.Ground.phase }, { on := 8, ground := Go.Ground.phase }, { on := 9, ground := Go.Ground.phase }, { on := 10, ground := Go.Ground.phase }, { on := 11, ground := Go.Ground.phase }, { on := 12, ground := Go.Ground.phase }, { on := 13, ground := Go.Ground.phase }, { on := 14, ground := Go.Ground.phase }, { on := 15, ground := Go.Ground.phase }, { on := 16, ground := Go.Ground.phase }, { on := 17, ground := Go.Ground.phase }, { on := 18, ground := Go.Ground.phase }, { on := 19, ground := Go.Ground.phase }, { on := 20, ground := Go.Ground.phase }, { on := 21, ground := Go.Ground.phase }, { on := 22, ground := Go.Ground.phase }, { on := 23, ground := Go.Ground.phase }, { on := 24, ground := Go.Ground.phase }, { on := 25, ground := Go.Ground.phase }, { on := 26, ground := Go.Ground.phase }, { on := 27, ground := Go.Ground.phase }, { on := 28, ground := Go.Ground.phase }, { on := 29, ground := Go.Ground.phase }, { on := 30, ground := Go.Ground.phase }, { on := 31, ground := Go.Ground.phase }, { on := 32, ground := Go.Ground.phase }, { on := 33, ground := Go.Ground.phase }, { on := 34, ground := Go.Ground.phase }, { on := 35, ground := Go.Ground.phase }, { on := 36, ground := Go.Ground.phase }, { on := 37, ground := Go.Ground.phase }, { on := 38, ground := Go.Ground.phase }, { on := 39, ground := Go.Ground.phase }, { on := 40, ground := Go.Ground.phase }, { on := 41, ground := Go.Ground.phase }, { on := 42, ground := Go.Ground.phase }, { on := 43, ground := Go.Ground.phase }, { on := 44, ground := Go.Ground.phase }, { on := 45, ground := Go.Ground.phase }, { on := 46, ground := Go.Ground.phase }, { on := 47, ground := Go.Ground.phase }, { on := 48, ground := Go.Ground.phase }, { on := 49, ground := Go.Ground.phase }, { on := 50, ground := Go.Ground.phase }, { on := 51, ground := Go.Ground.phase }], guard := none }) (v := ?vc52_51) rfl (by kernel_rfl) (by kernel_rfl) (by kernel_rfl) (fun _ _ _ h => h) (Or.inl ⟨by rfl, ?hc52_51⟩) hHeld ?rc52_51
        case hc52_51 =>
          intro wS hSw
          (try dsimp only at hSw)
          go_simp
          try with_reducible rfl
        case rc52_51 =>
        simp only [Act.put, List.setIfInBounds_toArray, List.set_cons_zero, List.set_cons_succ]
        refine wpAnyH_done (by kernel_rfl) ?_ _
        refine NoPanic.normal ?_
        have HB9 := hide ((unhide HBA).trans (hHeld.mono (unhide HBA).size))
        clear hHeld
        go_wp2_with fail
        go_ret
        exact ⟨rfl, unhide HB9⟩
  · have hfc : trainR xs zs k = ⟨trainFault xs zs k, []⟩ := if_neg hf
    rw [hfc] at R1 ⊢
    simp only [List.length_nil] at R1 ⊢
    have nb2 : Below w2.heap.size w2 (w2.alloc (.cells #[.int .i64 (trainFault xs zs k), .slice a1 0 c1] 30)) := (Below.refl _ _).alloc (Nat.le_refl _) _
    have x6 : Box 0 #[.int .i64 (trainFault xs zs k), .slice a1 0 c1] 30 (w2.alloc (.cells #[.int .i64 (trainFault xs zs k), .slice a1 0 c1] 30)) w2.heap.size := newBox (Nat.zero_le _)
    have HX6 := hide x6
    replace HX2 := hide ((unhide HX2).later nb2)
    replace HZ2 := hide ((unhide HZ2).later nb2)
    have HBA := hide ((unhide HB2).trans (nb2.mono (unhide HB2).size))
    have HFCC := hide hfc
    have hne : (trainFault xs zs k != 0) = true := by rw [bne_iff_ne]; exact hf
    have heq : (trainFault xs zs k == trainFault xs zs k) = true := by simp
    clear R1 nb2 x6 hf hfc HB2
    generalize trainFault xs zs k = fc at *
    go_wp2_with fail
    generalize w2.alloc (.cells #[.int .i64 fc, .slice a1 0 c1] 30) = W2 at *
    have LM : Hid (∀ W, Below W2.heap.size W2 W → Calls Try.prog 13 #[.slice ax xs.length cx, .slice az zs.length cz, .int .i64 k] W fun e w' => ∃ (a : Option Addr) (n cp : Nat), e = .returned (.agg #[.int .i64 fc, .slice a n cp]) ∧ Below W.heap.size W w') := fun W hW => by
      refine (specTrain _ xs _ zs k W ((unhide HX2).later hW) ((unhide HZ2).later hW)).mono ?_
      rintro e w' ⟨cs, rfl, ho, hb⟩
      obtain ⟨a, cp, rfl, -⟩ := open_CentersResult ho
      rw [unhide HFCC]
      exact ⟨a, _, cp, rfl, hb⟩
    have hf0 := fun a n cp => fieldCR0 fc a n cp
    refine wp_region_noPanic ?_
    refine wp_region_held_drew (S := fun w' => Below W2.heap.size W2 w') (by kernel_rfl) (Below.refl _ _).drew (fun hHeld => ?_)
    generalize W2.drew = wD at hHeld ⊢
    refine wpAnyH_take (i := 0) (oi := { dst := some 28, op := Go.Op.move (Go.Operand.tmp 3), type := 24, pos := "laws.go:275", after := #[], guard := none }) (v := ?va0_1) rfl (by kernel_rfl) (by kernel_rfl) (by kernel_rfl) (fun _ _ _ h => h) (Or.inl ⟨by rfl, ?ha0_1⟩) hHeld ?ra0_1
    case ha0_1 =>
      intro wS hSw
      (try dsimp only at hSw)
      go_simp
      try with_reducible rfl
    case ra0_1 =>
    simp only [Act.put, List.setIfInBounds_toArray, List.set_cons_zero, List.set_cons_succ]
    refine wpAnyH_take (i := 1) (oi := { dst := some 29, op := Go.Op.move (Go.Operand.tmp 4), type := 25, pos := "laws.go:275", after := #[], guard := none }) (v := ?va1_2) rfl (by kernel_rfl) (by kernel_rfl) (by kernel_rfl) (fun _ _ _ h => h) (Or.inl ⟨by rfl, ?ha1_2⟩) hHeld ?ra1_2
    case ha1_2 =>
      intro wS hSw
      (try dsimp only at hSw)
      go_simp
      try with_reducible rfl
    case ra1_2 =>
    simp only [Act.put, List.setIfInBounds_toArray, List.set_cons_zero, List.set_cons_succ]
    refine wpAnyH_take (i := 2) (oi := { dst := some 30, op := Go.Op.move (Go.Operand.tmp 5), type := 2, pos := "laws.go:275", after := #[], guard := none }) (v := ?va2_3) rfl (by kernel_rfl) (by kernel_rfl) (by kernel_rfl) (fun _ _ _ h => h) (Or.inl ⟨by rfl, ?ha2_3⟩) hHeld ?ra2_3
    case ha2_3 =>
      intro wS hSw
      (try dsimp only at hSw)
      go_simp
      try with_reducible rfl
    case ra2_3 =>
    simp only [Act.put, List.setIfInBounds_toArray, List.set_cons_zero, List.set_cons_succ]
    refine wpAnyH_take (i := 5) (oi := { dst := some 33, op := Go.Op.fieldAddr 30 (Go.Operand.tmp 6) 0, type := 0, pos := "laws.go:275", after := #[], guard := none }) (v := ?va5_4) rfl (by kernel_rfl) (by kernel_rfl) (by kernel_rfl) (fun _ _ _ h => h) (Or.inl ⟨by rfl, ?ha5_4⟩) hHeld ?ra5_4
    case ha5_4 =>
      intro wS hSw
      (try dsimp only at hSw)
      go_simp
      try with_reducible rfl
    case ra5_4 =>
    simp only [Act.put, List.setIfInBounds_toArray, List.set_cons_zero, List.set_cons_succ]
    refine wpAnyH_take (i := 6) (oi := { dst := some 34, op := Go.Op.load 2 (Go.Operand.tmp 33), type := 2, pos := "laws.go:275", after := #[{ on := 5, ground := Go.Ground.data }], guard := none }) (v := ?va6_5) rfl (by kernel_rfl) (by kernel_rfl) (by kernel_rfl) (fun _ _ _ h => h) (Or.inl ⟨by rfl, ?ha6_5⟩) hHeld ?ra6_5
    case ha6_5 =>
      intro wS hSw
      have y0 : wS.cell? ⟨w2.heap.size, 0, none⟩ = some (.int .i64 fc) := (unhide HX6).keep hSw |>.at 0 _ rfl
      clear hSw
      (try dsimp only at hSw)
      go_simp
      try with_reducible rfl
    case ra6_5 =>
    simp only [Act.put, List.setIfInBounds_toArray, List.set_cons_zero, List.set_cons_succ]
    refine wpAnyH_ready (rs := [3]) (by kernel_rfl) (by simp) ?_
    refine AllReadyH.cons (o := { dst := some 31, op := Go.Op.call { callee := Go.Callee.value (Go.Operand.func 13), args := #[Go.Operand.tmp 28, Go.Operand.tmp 29, Go.Operand.tmp 30], argTypes := #[24, 25, 2] }, type := 30, pos := "laws.go:275", after := #[{ on := 0, ground := Go.Ground.data }, { on := 1, ground := Go.Ground.data }, { on := 2, ground := Go.Ground.data }], guard := none }) rfl (fun K hK => ?_) AllReadyH.nil
    go_simp
    go_at_call 13
    refine (unhide LM _ hHeld).mono ?_
    rintro e w3 ⟨a9, n9, c9, rfl, hbw⟩
    try go_wp2_with fail
    refine hK.out _ _ (hHeld.trans (hbw.mono hHeld.size)) (fun hHeld => ?_)
    clear hK K
    try simp only [Act.put, List.setIfInBounds_toArray, List.set_cons_zero, List.set_cons_succ]
    refine wpAnyH_take (i := 4) (oi := { dst := some 32, op := Go.Op.field 30 (Go.Operand.tmp 31) 0, type := 2, pos := "laws.go:275", after := #[{ on := 3, ground := Go.Ground.data }], guard := none }) (v := ?va4_6) rfl (by kernel_rfl) (by kernel_rfl) (by kernel_rfl) (fun _ _ _ h => h) (Or.inl ⟨by rfl, ?ha4_6⟩) hHeld ?ra4_6
    case ha4_6 =>
      intro wS hSw
      have yf := hf0 a9 n9 c9
      clear hSw
      (try dsimp only at hSw)
      go_simp
      try with_reducible rfl
    case ra4_6 =>
    simp only [Act.put, List.setIfInBounds_toArray, List.set_cons_zero, List.set_cons_succ]
    refine wpAnyH_take (i := 7) (oi := { dst := some 35, op := Go.Op.binOp Go.BinOp.eql 2 (Go.Operand.tmp 32) (Go.Operand.tmp 34) 2, type := 4, pos := "laws.go:275", after := #[{ on := 4, ground := Go.Ground.data }, { on := 6, ground := Go.Ground.data }], guard := none }) (v := ?va7_7) rfl (by kernel_rfl) (by kernel_rfl) (by kernel_rfl) (fun _ _ _ h => h) (Or.inl ⟨by rfl, ?ha7_7⟩) hHeld ?ra7_7
    case ha7_7 =>
      intro wS hSw
      (try dsimp only at hSw)
      go_simp
      try with_reducible rfl
    case ra7_7 =>
    simp only [Act.put, List.setIfInBounds_toArray, List.set_cons_zero, List.set_cons_succ]
    refine wpAnyH_take (i := 8) (oi := { dst := some 2, op := Go.Op.assign (Go.Operand.tmp 35), type := 4, pos := "laws.go:275", after := #[{ on := 7, ground := Go.Ground.data }, { on := 3, ground := Go.Ground.chain }, { on := 0, ground := Go.Ground.phase }, { on := 1, ground := Go.Ground.phase }, { on := 2, ground := Go.Ground.phase }, { on := 3, ground := Go.Ground.phase }, { on := 4, ground := Go.Ground.phase }, { on := 5, ground := Go.Ground.phase }, { on := 6, ground := Go.Ground.phase }, { on := 7, ground := Go.Ground.phase }], guard := none }) (v := ?va8_8) rfl (by kernel_rfl) (by kernel_rfl) (by kernel_rfl) (fun _ _ _ h => h) (Or.inl ⟨by rfl, ?ha8_8⟩) hHeld ?ra8_8
    case ha8_8 =>
      intro wS hSw
      (try dsimp only at hSw)
      go_simp
      try with_reducible rfl
    case ra8_8 =>
    simp only [Act.put, List.setIfInBounds_toArray, List.set_cons_zero, List.set_cons_succ]
    refine wpAnyH_done (by kernel_rfl) ?_ _
    refine NoPanic.normal ?_
    have HB9 := hide ((unhide HBA).trans (hHeld.mono (unhide HBA).size))
    clear hHeld
    go_wp2_with fail
    go_ret
    exact ⟨rfl, unhide HB9⟩

/-- FnTrains. -/
theorem lawFnTrains (a : Option Addr) (len cap : Nat) (zs : List Int) (w : World) (h : (a = none ∧ len = 0 ∧ cap = 0 ∧ zs = []) ∨
    ∃ x, a = some x ∧ len ≤ cap ∧ cap ≤ maxLen ∧ zs.length = cap ∧ (∀ i, i < zs.length → w.cell? (x.add i) = some (.int .u8 (zs.getD i 0))) ∧ ∀ n ∈ zs, (Lit.int .u8 n).wf = true) :
    Calls Try.prog 3 #[.slice a len cap] w fun e w' => e = .returned (.bool true) ∧ Below w.heap.size w w' := by
  by_cases hn : len ≤ 1048576
  · exact lawTrains_few a len cap w hn (isCode_of_row h hn)
  · exact lawTrains_many a len cap w (by omega)

end Go.Proofs.Ytjofcmdlcoganaa
