/-
  Texts of this proof in one: SpecLists7, AppInts, SpecIntsB, SpecCopy, SpecSet, SpecSet2.
  Their conditions stand in their theorems.
-/
import Derived.Test.YtfgadegpdknocaaGreatChecked
import Derived.Test.YtfgadegpdknocaaGreatIs08
import Derived.Test.YtfgadegpdknocaaGreatIs15
import Derived.Test.YtfgadegpdknocaaGreatIs01
import Derived.Test.YtfgadegpdknocaaGreatIs02
import Derived.Test.YtfgadegpdknocaaGreatIs09
import Derived.Maps.AppendAt
import Derived.BigQuiet
import Derived.Deep.QuietTactic
import Derived.WalkSmall
import Derived.Deep.RegionHeld3

namespace Go.Proofs.YtfgadegpdknocaaGreat
open Go.RowKit

set_option maxRecDepth 100000 in
set_option maxHeartbeats 4000000 in
theorem specLists7 (b : Nat) (x : DIvf) (ac : Option Addr) (dc : Nat) (al : Option Addr) (dl : Nat) (w : World) (h : IvfAt w b x ac dc al dl) (hcf : centersFault x.centers = 0) (hn : x.lists.length ≤ 1000000) :
    Calls Tryz.prog 102 #[.pointer (some ⟨b, 0, none⟩)] w fun e w' => e = .returned (.int .i64 (listsFrom x.centers 0 x.lists)) ∧ Below w.heap.size w w' := by
  generalize hF0 : listsFrom x.centers 0 x.lists = F0
  have HX := hide h
  have HCF := hide hcf
  clear h hcf
  go_enter Tryz.func102, Tryz.ntmps102
  go_wp2_with fail
  go_loopw [3] (fun i wr => ∃ k : Nat, k ≤ x.lists.length ∧ i = .int .i64 k ∧ listsFrom x.centers k (x.lists.drop k) = F0 ∧ Below w.heap.size w wr) (fun i _ => x.lists.length - (intOf i).toNat)
  case atStart => exact ⟨0, Nat.zero_le _, rfl, hF0, Below.refl _ _⟩
  case round =>
    obtain ⟨k, hk, rfl, hF, hB⟩ := hrel
    have c1 := ((unhide HX).later hB).c1
    by_cases hlt : k < x.lists.length
    · obtain ⟨bl, ol, rfl, hbl⟩ := Lay.sl_addr (unhide HX).lists (by omega)
      obtain ⟨row, hc, hr⟩ := Lay.row_at (unhide HX).lists hlt
      obtain ⟨a5, d5, rfl, R5⟩ := open_IvfList hr
      have c2 : wr.cell? ⟨bl, ol + k, none⟩ = some (.slice a5 (x.lists[k]).items.length d5) := (hB.cell (p := ⟨bl, ol + k, none⟩) hbl).trans (one_cell (hc 0 (by decide)))
      rw [listsFrom_step x.centers x.lists k hlt] at hF
      clear hc hr
      generalize hls : x.lists[k] = l at *
      clear hls
      have HR5 := hide R5
      have LT := hide (specTab _ l.items wr (R5.later hB))
      have HF := hide hF
      have HB := hide hB
      clear R5 hF hB
      go_wp2_with fail
      refine (unhide LT).mono ?_
      rintro e w2 ⟨rfl, hb2⟩
      replace HB := hide ((unhide HB).trans (hb2.mono (unhide HB).size))
      clear hb2 LT c1 c2
      by_cases hft : tableFault l.items = 0
      · rw [hft]
        obtain ⟨hl30, hla, -⟩ := tableFault_zero hft
        have HLA := hide hla
        have HFT := hide hft
        clear hla hft
        go_wp2_with fail
        rename World => wo
        go_loopw [6] (fun i wr => ∃ j : Nat, j ≤ l.items.length ∧ i = .int .i64 j ∧ atB x.centers k (l.items.take j) = true ∧ Below w.heap.size w wr) (fun i _ => l.items.length - (intOf i).toNat)
        case atStart => exact ⟨0, Nat.zero_le _, rfl, rfl, unhide HB⟩
        case round =>
          obtain ⟨j, hj, rfl, hat, hBr⟩ := hrel
          clear HB
          by_cases hlj : j < l.items.length
          · obtain ⟨b6, o6, rfl, hb6⟩ := Lay.sl_addr (unhide HR5) (by omega)
            obtain ⟨row, hc, hr⟩ := Lay.row_at (unhide HR5) hlj
            obtain ⟨a7, d7, rfl, R7⟩ := open_Item hr
            have c4 : w.cell? ⟨b6, o6 + j * 2 + 1, none⟩ = some (.slice a7 (l.items[j]).vec.length d7) := hc 1 (by decide)
            have hvx := (unhide HLA l.items[j] (List.getElem_mem hlj)).2
            have hats : atB x.centers k (l.items.take (j + 1)) = (near x.centers (l.items[j]).vec == k) := by
              rw [atB, List.take_succ_eq_append_getElem hlj, List.all_append, show (l.items.take j).all (fun y => near x.centers y.vec == k) = true from hat]
              simp
            have hbad : (near x.centers (l.items[j]).vec == k) = false → atB x.centers k l.items = false := fun hq => by
              rw [atB, List.all_eq_false]
              exact ⟨_, List.getElem_mem hlj, by rw [hq]; simp⟩
            clear hc hr hat
            generalize l.items[j] = y at *
            have LN : Hid (∀ W, Below w.heap.size w W → Calls Tryz.prog 86 #[.slice ac x.centers.length dc, .slice a7 y.vec.length d7] W fun e w' => e = .returned (.int .i64 (near x.centers y.vec : Nat)) ∧ Below W.heap.size W w') := fun W hW => specNear _ x.centers _ y.vec W ((unhide HX).later hW).cens ((Lay.ints_reads R7).later hW) (unhide HCF) hvx
            have HBr := hide hBr
            have HATS := hide hats
            have HBAD := hide hbad
            clear R7 hvx hBr hats hbad
            generalize near x.centers y.vec = nr at *
            have i1 : (0 : Int) ≤ (j : Int) := by omega
            have i2 : (j : Int) < (l.items.length : Int) := by omega
            by_cases he : nr = k
            · subst he
              have hd : (((nr : Nat) : Int) != ((nr : Nat) : Int)) = false := by simp
              have HAT2 : Hid (atB x.centers nr (l.items.take (j + 1)) = true) := (unhide HATS).trans (by simp)
              clear HATS HBAD
              go_wp2_with fail
              refine wp_region_noPanic ?_
              refine wp_region_held_drew (S := fun w' => Below w.heap.size w w') (by kernel_rfl) (unhide HBr).drew (fun hHeld => ?_)
              generalize wr.drew = wD at hHeld ⊢
              refine wpAnyH_take (i := 0) (oi := { dst := some 35, op := Go.Op.move (Go.Operand.tmp 0), type := 76, pos := "l07_ivf.go:25", after := #[], guard := none }) (v := ?va0_1) rfl (by kernel_rfl) (by kernel_rfl) (by kernel_rfl) (fun _ _ _ h => h) (Or.inl ⟨by rfl, ?ha0_1⟩) hHeld ?ra0_1
              case ha0_1 =>
                intro wS hSw
                (try dsimp only at hSw)
                go_simp
                try with_reducible rfl
              case ra0_1 =>
              simp only [Act.put, List.setIfInBounds_toArray, List.set_cons_zero, List.set_cons_succ]
              refine wpAnyH_take (i := 1) (oi := { dst := some 36, op := Go.Op.nilCheck (Go.Operand.tmp 35), type := 0, pos := "l07_ivf.go:25", after := #[{ on := 0, ground := Go.Ground.data }], guard := none }) (v := ?va1_2) rfl (by kernel_rfl) (by kernel_rfl) (by kernel_rfl) (fun _ _ _ h => h) (Or.inl ⟨by rfl, ?ha1_2⟩) hHeld ?ra1_2
              case ha1_2 =>
                intro wS hSw
                (try dsimp only at hSw)
                go_simp
                try with_reducible rfl
              case ra1_2 =>
              simp only [Act.put, List.setIfInBounds_toArray, List.set_cons_zero, List.set_cons_succ]
              refine wpAnyH_take (i := 2) (oi := { dst := some 37, op := Go.Op.fieldAddr 31 (Go.Operand.tmp 36) 0, type := 0, pos := "l07_ivf.go:25", after := #[{ on := 1, ground := Go.Ground.data }], guard := none }) (v := ?va2_3) rfl (by kernel_rfl) (by kernel_rfl) (by kernel_rfl) (fun _ _ _ h => h) (Or.inl ⟨by rfl, ?ha2_3⟩) hHeld ?ra2_3
              case ha2_3 =>
                intro wS hSw
                (try dsimp only at hSw)
                go_simp
                try with_reducible rfl
              case ra2_3 =>
              simp only [Act.put, List.setIfInBounds_toArray, List.set_cons_zero, List.set_cons_succ]
              refine wpAnyH_take (i := 3) (oi := { dst := some 38, op := Go.Op.load 28 (Go.Operand.tmp 37), type := 28, pos := "l07_ivf.go:25", after := #[{ on := 2, ground := Go.Ground.data }], guard := none }) (v := ?va3_4) rfl (by kernel_rfl) (by kernel_rfl) (by kernel_rfl) (fun _ _ _ h => h) (Or.inl ⟨by rfl, ?ha3_4⟩) hHeld ?ra3_4
              case ha3_4 =>
                intro wS hSw
                have y0 := ((unhide HX).later hSw).c0
                clear hSw
                (try dsimp only at hSw)
                go_simp
                try with_reducible rfl
              case ra3_4 =>
              simp only [Act.put, List.setIfInBounds_toArray, List.set_cons_zero, List.set_cons_succ]
              refine wpAnyH_take (i := 4) (oi := { dst := some 39, op := Go.Op.move (Go.Operand.tmp 4), type := 57, pos := "l07_ivf.go:25", after := #[], guard := none }) (v := ?va4_5) rfl (by kernel_rfl) (by kernel_rfl) (by kernel_rfl) (fun _ _ _ h => h) (Or.inl ⟨by rfl, ?ha4_5⟩) hHeld ?ra4_5
              case ha4_5 =>
                intro wS hSw
                (try dsimp only at hSw)
                go_simp
                try with_reducible rfl
              case ra4_5 =>
              simp only [Act.put, List.setIfInBounds_toArray, List.set_cons_zero, List.set_cons_succ]
              refine wpAnyH_take (i := 5) (oi := { dst := some 40, op := Go.Op.move (Go.Operand.tmp 6), type := 3, pos := "l07_ivf.go:25", after := #[], guard := none }) (v := ?va5_6) rfl (by kernel_rfl) (by kernel_rfl) (by kernel_rfl) (fun _ _ _ h => h) (Or.inl ⟨by rfl, ?ha5_6⟩) hHeld ?ra5_6
              case ha5_6 =>
                intro wS hSw
                (try dsimp only at hSw)
                go_simp
                try with_reducible rfl
              case ra5_6 =>
              simp only [Act.put, List.setIfInBounds_toArray, List.set_cons_zero, List.set_cons_succ]
              refine wpAnyH_take (i := 6) (oi := { dst := some 41, op := Go.Op.indexAddr 57 (Go.Operand.tmp 39) (Go.Operand.tmp 40), type := 0, pos := "l07_ivf.go:25", after := #[{ on := 4, ground := Go.Ground.data }, { on := 5, ground := Go.Ground.data }], guard := none }) (v := ?va6_7) rfl (by kernel_rfl) (by kernel_rfl) (by kernel_rfl) (fun _ _ _ h => h) (Or.inl ⟨by rfl, ?ha6_7⟩) hHeld ?ra6_7
              case ha6_7 =>
                intro wS hSw
                (try dsimp only at hSw)
                go_simp
                try with_reducible rfl
              case ra6_7 =>
              simp only [Act.put, List.setIfInBounds_toArray, List.set_cons_zero, List.set_cons_succ]
              refine wpAnyH_take (i := 7) (oi := { dst := some 42, op := Go.Op.fieldAddr 133 (Go.Operand.tmp 41) 1, type := 0, pos := "l07_ivf.go:25", after := #[{ on := 6, ground := Go.Ground.data }], guard := none }) (v := ?va7_8) rfl (by kernel_rfl) (by kernel_rfl) (by kernel_rfl) (fun _ _ _ h => h) (Or.inl ⟨by rfl, ?ha7_8⟩) hHeld ?ra7_8
              case ha7_8 =>
                intro wS hSw
                (try dsimp only at hSw)
                go_simp
                try with_reducible rfl
              case ra7_8 =>
              simp only [Act.put, List.setIfInBounds_toArray, List.set_cons_zero, List.set_cons_succ]
              refine wpAnyH_take (i := 8) (oi := { dst := some 43, op := Go.Op.load 26 (Go.Operand.tmp 42), type := 26, pos := "l07_ivf.go:25", after := #[{ on := 7, ground := Go.Ground.data }], guard := none }) (v := ?va8_9) rfl (by kernel_rfl) (by kernel_rfl) (by kernel_rfl) (fun _ _ _ h => h) (Or.inl ⟨by rfl, ?ha8_9⟩) hHeld ?ra8_9
              case ha8_9 =>
                intro wS hSw
                have y1 := (hSw.cell (p := ⟨b6, o6 + j * 2 + 1, none⟩) hb6).trans c4
                clear hSw
                (try dsimp only at hSw)
                go_simp
                try with_reducible rfl
              case ra8_9 =>
              simp only [Act.put, List.setIfInBounds_toArray, List.set_cons_zero, List.set_cons_succ]
              refine wpAnyH_take (i := 10) (oi := { dst := some 45, op := Go.Op.move (Go.Operand.tmp 3), type := 3, pos := "l07_ivf.go:25", after := #[], guard := none }) (v := ?va10_10) rfl (by kernel_rfl) (by kernel_rfl) (by kernel_rfl) (fun _ _ _ h => h) (Or.inl ⟨by rfl, ?ha10_10⟩) hHeld ?ra10_10
              case ha10_10 =>
                intro wS hSw
                (try dsimp only at hSw)
                go_simp
                try with_reducible rfl
              case ra10_10 =>
              simp only [Act.put, List.setIfInBounds_toArray, List.set_cons_zero, List.set_cons_succ]
              refine wpAnyH_ready (rs := [9]) (by kernel_rfl) (by simp) ?_
              refine AllReadyH.cons (o := { dst := some 44, op := Go.Op.call { callee := Go.Callee.value (Go.Operand.func 86), args := #[Go.Operand.tmp 38, Go.Operand.tmp 43], argTypes := #[28, 26] }, type := 2, pos := "l07_ivf.go:25", after := #[{ on := 3, ground := Go.Ground.data }, { on := 8, ground := Go.Ground.data }], guard := none }) rfl (fun K hK => ?_) AllReadyH.nil
              go_simp
              go_at_call 86
              refine (unhide LN _ hHeld).mono ?_
              rintro e w3 ⟨rfl, hbw⟩
              try go_wp2_with fail
              refine hK.out _ _ (hHeld.trans (hbw.mono hHeld.size)) (fun hHeld => ?_)
              clear hK K
              try simp only [Act.put, List.setIfInBounds_toArray, List.set_cons_zero, List.set_cons_succ]
              refine wpAnyH_take (i := 11) (oi := { dst := some 46, op := Go.Op.binOp Go.BinOp.neq 2 (Go.Operand.tmp 44) (Go.Operand.tmp 45) 2, type := 4, pos := "l07_ivf.go:25", after := #[{ on := 9, ground := Go.Ground.data }, { on := 10, ground := Go.Ground.data }], guard := none }) (v := ?va11_11) rfl (by kernel_rfl) (by kernel_rfl) (by kernel_rfl) (fun _ _ _ h => h) (Or.inl ⟨by rfl, ?ha11_11⟩) hHeld ?ra11_11
              case ha11_11 =>
                intro wS hSw
                (try dsimp only at hSw)
                go_simp
                try with_reducible rfl
              case ra11_11 =>
              simp only [Act.put, List.setIfInBounds_toArray, List.set_cons_zero, List.set_cons_succ]
              refine wpAnyH_done (by kernel_rfl) ?_ _
              refine NoPanic.normal ?_
              have HB9 := hide hHeld
              clear hHeld
              go_wp2_with fail
              go_roundw
              case rel => exact ⟨j + 1, by omega, by go_num, unhide HAT2, unhide HB9⟩
              case measure => simp [intOf]; omega
            · have hd : (((nr : Nat) : Int) != ((k : Nat) : Int)) = true := by rw [bne_iff_ne]; omega
              have HF1 : Hid (1 = F0) := by
                have := unhide HF
                rw [show listFault x.centers k l.items = 1 by rw [listFault, if_pos (unhide HFT), unhide HBAD (by simpa using he), if_neg (by simp)], if_neg (by decide)] at this
                exact this
              clear HATS HBAD he
              go_wp2_with fail
              refine wp_region_noPanic ?_
              refine wp_region_held_drew (S := fun w' => Below w.heap.size w w') (by kernel_rfl) (unhide HBr).drew (fun hHeld => ?_)
              generalize wr.drew = wD at hHeld ⊢
              refine wpAnyH_take (i := 0) (oi := { dst := some 35, op := Go.Op.move (Go.Operand.tmp 0), type := 76, pos := "l07_ivf.go:25", after := #[], guard := none }) (v := ?vb0_1) rfl (by kernel_rfl) (by kernel_rfl) (by kernel_rfl) (fun _ _ _ h => h) (Or.inl ⟨by rfl, ?hb0_1⟩) hHeld ?rb0_1
              case hb0_1 =>
                intro wS hSw
                (try dsimp only at hSw)
                go_simp
                try with_reducible rfl
              case rb0_1 =>
              simp only [Act.put, List.setIfInBounds_toArray, List.set_cons_zero, List.set_cons_succ]
              refine wpAnyH_take (i := 1) (oi := { dst := some 36, op := Go.Op.nilCheck (Go.Operand.tmp 35), type := 0, pos := "l07_ivf.go:25", after := #[{ on := 0, ground := Go.Ground.data }], guard := none }) (v := ?vb1_2) rfl (by kernel_rfl) (by kernel_rfl) (by kernel_rfl) (fun _ _ _ h => h) (Or.inl ⟨by rfl, ?hb1_2⟩) hHeld ?rb1_2
              case hb1_2 =>
                intro wS hSw
                (try dsimp only at hSw)
                go_simp
                try with_reducible rfl
              case rb1_2 =>
              simp only [Act.put, List.setIfInBounds_toArray, List.set_cons_zero, List.set_cons_succ]
              refine wpAnyH_take (i := 2) (oi := { dst := some 37, op := Go.Op.fieldAddr 31 (Go.Operand.tmp 36) 0, type := 0, pos := "l07_ivf.go:25", after := #[{ on := 1, ground := Go.Ground.data }], guard := none }) (v := ?vb2_3) rfl (by kernel_rfl) (by kernel_rfl) (by kernel_rfl) (fun _ _ _ h => h) (Or.inl ⟨by rfl, ?hb2_3⟩) hHeld ?rb2_3
              case hb2_3 =>
                intro wS hSw
                (try dsimp only at hSw)
                go_simp
                try with_reducible rfl
              case rb2_3 =>
              simp only [Act.put, List.setIfInBounds_toArray, List.set_cons_zero, List.set_cons_succ]
              refine wpAnyH_take (i := 3) (oi := { dst := some 38, op := Go.Op.load 28 (Go.Operand.tmp 37), type := 28, pos := "l07_ivf.go:25", after := #[{ on := 2, ground := Go.Ground.data }], guard := none }) (v := ?vb3_4) rfl (by kernel_rfl) (by kernel_rfl) (by kernel_rfl) (fun _ _ _ h => h) (Or.inl ⟨by rfl, ?hb3_4⟩) hHeld ?rb3_4
              case hb3_4 =>
                intro wS hSw
                have y0 := ((unhide HX).later hSw).c0
                clear hSw
                (try dsimp only at hSw)
                go_simp
                try with_reducible rfl
              case rb3_4 =>
              simp only [Act.put, List.setIfInBounds_toArray, List.set_cons_zero, List.set_cons_succ]
              refine wpAnyH_take (i := 4) (oi := { dst := some 39, op := Go.Op.move (Go.Operand.tmp 4), type := 57, pos := "l07_ivf.go:25", after := #[], guard := none }) (v := ?vb4_5) rfl (by kernel_rfl) (by kernel_rfl) (by kernel_rfl) (fun _ _ _ h => h) (Or.inl ⟨by rfl, ?hb4_5⟩) hHeld ?rb4_5
              case hb4_5 =>
                intro wS hSw
                (try dsimp only at hSw)
                go_simp
                try with_reducible rfl
              case rb4_5 =>
              simp only [Act.put, List.setIfInBounds_toArray, List.set_cons_zero, List.set_cons_succ]
              refine wpAnyH_take (i := 5) (oi := { dst := some 40, op := Go.Op.move (Go.Operand.tmp 6), type := 3, pos := "l07_ivf.go:25", after := #[], guard := none }) (v := ?vb5_6) rfl (by kernel_rfl) (by kernel_rfl) (by kernel_rfl) (fun _ _ _ h => h) (Or.inl ⟨by rfl, ?hb5_6⟩) hHeld ?rb5_6
              case hb5_6 =>
                intro wS hSw
                (try dsimp only at hSw)
                go_simp
                try with_reducible rfl
              case rb5_6 =>
              simp only [Act.put, List.setIfInBounds_toArray, List.set_cons_zero, List.set_cons_succ]
              refine wpAnyH_take (i := 6) (oi := { dst := some 41, op := Go.Op.indexAddr 57 (Go.Operand.tmp 39) (Go.Operand.tmp 40), type := 0, pos := "l07_ivf.go:25", after := #[{ on := 4, ground := Go.Ground.data }, { on := 5, ground := Go.Ground.data }], guard := none }) (v := ?vb6_7) rfl (by kernel_rfl) (by kernel_rfl) (by kernel_rfl) (fun _ _ _ h => h) (Or.inl ⟨by rfl, ?hb6_7⟩) hHeld ?rb6_7
              case hb6_7 =>
                intro wS hSw
                (try dsimp only at hSw)
                go_simp
                try with_reducible rfl
              case rb6_7 =>
              simp only [Act.put, List.setIfInBounds_toArray, List.set_cons_zero, List.set_cons_succ]
              refine wpAnyH_take (i := 7) (oi := { dst := some 42, op := Go.Op.fieldAddr 133 (Go.Operand.tmp 41) 1, type := 0, pos := "l07_ivf.go:25", after := #[{ on := 6, ground := Go.Ground.data }], guard := none }) (v := ?vb7_8) rfl (by kernel_rfl) (by kernel_rfl) (by kernel_rfl) (fun _ _ _ h => h) (Or.inl ⟨by rfl, ?hb7_8⟩) hHeld ?rb7_8
              case hb7_8 =>
                intro wS hSw
                (try dsimp only at hSw)
                go_simp
                try with_reducible rfl
              case rb7_8 =>
              simp only [Act.put, List.setIfInBounds_toArray, List.set_cons_zero, List.set_cons_succ]
              refine wpAnyH_take (i := 8) (oi := { dst := some 43, op := Go.Op.load 26 (Go.Operand.tmp 42), type := 26, pos := "l07_ivf.go:25", after := #[{ on := 7, ground := Go.Ground.data }], guard := none }) (v := ?vb8_9) rfl (by kernel_rfl) (by kernel_rfl) (by kernel_rfl) (fun _ _ _ h => h) (Or.inl ⟨by rfl, ?hb8_9⟩) hHeld ?rb8_9
              case hb8_9 =>
                intro wS hSw
                have y1 := (hSw.cell (p := ⟨b6, o6 + j * 2 + 1, none⟩) hb6).trans c4
                clear hSw
                (try dsimp only at hSw)
                go_simp
                try with_reducible rfl
              case rb8_9 =>
              simp only [Act.put, List.setIfInBounds_toArray, List.set_cons_zero, List.set_cons_succ]
              refine wpAnyH_take (i := 10) (oi := { dst := some 45, op := Go.Op.move (Go.Operand.tmp 3), type := 3, pos := "l07_ivf.go:25", after := #[], guard := none }) (v := ?vb10_10) rfl (by kernel_rfl) (by kernel_rfl) (by kernel_rfl) (fun _ _ _ h => h) (Or.inl ⟨by rfl, ?hb10_10⟩) hHeld ?rb10_10
              case hb10_10 =>
                intro wS hSw
                (try dsimp only at hSw)
                go_simp
                try with_reducible rfl
              case rb10_10 =>
              simp only [Act.put, List.setIfInBounds_toArray, List.set_cons_zero, List.set_cons_succ]
              refine wpAnyH_ready (rs := [9]) (by kernel_rfl) (by simp) ?_
              refine AllReadyH.cons (o := { dst := some 44, op := Go.Op.call { callee := Go.Callee.value (Go.Operand.func 86), args := #[Go.Operand.tmp 38, Go.Operand.tmp 43], argTypes := #[28, 26] }, type := 2, pos := "l07_ivf.go:25", after := #[{ on := 3, ground := Go.Ground.data }, { on := 8, ground := Go.Ground.data }], guard := none }) rfl (fun K hK => ?_) AllReadyH.nil
              go_simp
              go_at_call 86
              refine (unhide LN _ hHeld).mono ?_
              rintro e w3 ⟨rfl, hbw⟩
              try go_wp2_with fail
              refine hK.out _ _ (hHeld.trans (hbw.mono hHeld.size)) (fun hHeld => ?_)
              clear hK K
              try simp only [Act.put, List.setIfInBounds_toArray, List.set_cons_zero, List.set_cons_succ]
              refine wpAnyH_take (i := 11) (oi := { dst := some 46, op := Go.Op.binOp Go.BinOp.neq 2 (Go.Operand.tmp 44) (Go.Operand.tmp 45) 2, type := 4, pos := "l07_ivf.go:25", after := #[{ on := 9, ground := Go.Ground.data }, { on := 10, ground := Go.Ground.data }], guard := none }) (v := ?vb11_11) rfl (by kernel_rfl) (by kernel_rfl) (by kernel_rfl) (fun _ _ _ h => h) (Or.inl ⟨by rfl, ?hb11_11⟩) hHeld ?rb11_11
              case hb11_11 =>
                intro wS hSw
                (try dsimp only at hSw)
                go_simp
                try with_reducible rfl
              case rb11_11 =>
              simp only [Act.put, List.setIfInBounds_toArray, List.set_cons_zero, List.set_cons_succ]
              refine wpAnyH_done (by kernel_rfl) ?_ _
              refine NoPanic.normal ?_
              have HB9 := hide hHeld
              clear hHeld
              go_wp2_with fail
              go_ret
              exact ⟨by rw [← unhide HF1]; rfl, unhide HB9⟩
          · obtain rfl : j = l.items.length := by omega
            rw [List.take_length] at hat
            have HF2 : Hid (listsFrom x.centers (k + 1) (x.lists.drop (k + 1)) = F0) := by
              have := unhide HF
              rw [if_pos (show listFault x.centers k l.items = 0 by rw [listFault, if_pos (unhide HFT), if_pos hat])] at this
              exact this
            have HB9 := hide hBr
            clear hBr hat
            go_wp2_with fail
            go_roundw
            case rel => exact ⟨k + 1, by omega, by go_num, unhide HF2, unhide HB9⟩
            case measure => simp [intOf]; omega
      · have hd : (tableFault l.items != 0) = true := by simpa using hft
        have HF2 : Hid (tableFault l.items = F0) := by
          have := unhide HF
          rw [show listFault x.centers k l.items = tableFault l.items from if_neg hft, if_neg hft] at this
          exact this
        clear hft
        go_wp2_with fail
        go_ret
        exact ⟨by rw [← unhide HF2]; rfl, unhide HB⟩
    · obtain rfl : k = x.lists.length := by omega
      rw [List.drop_length] at hF
      have HF := hide hF
      have HB := hide hB
      clear hF hB
      go_wp2_with fail
      go_ret
      exact ⟨by rw [← unhide HF]; rfl, unhide HB⟩

end Go.Proofs.YtfgadegpdknocaaGreat

namespace Go.Proofs.YtfgadegpdknocaaGreat
open Go.RowKit

theorem append_noneI {P : Program} (t ty e : TypeId) (i : TypeInfo) (ht : P.underlying t = some (.slice e)) (hi : P.info? e = some i) (bo : Option Addr) (n cap c : Nat) (hn : n ≤ cap) (w : World) :
    (Builtin.append_ #[t, t] ty #[.slice bo n cap, .slice none 0 c]).run P w = (Builtin.append_ #[t, t] ty #[.slice bo n cap, .slice (some ⟨0, 0, none⟩) 0 c]).run P w := by
  simp [Builtin.append_, run_underlying ht, sizeOf, typeInfo, hi, Builtin.lenOf, hn, Builtin.firstCells, loadCells, loadCellsFrom]

theorem IsInts.news {w : World} {b off cap : Nat} {zs : List Int} (h : IsInts w (.slice (some ⟨b, off, none⟩) zs.length cap) zs) (hp : 0 < zs.length) : ∀ j u, (zs.map (Value.int .i64))[j]? = some u → w.cell? ((⟨b, off, none⟩ : Addr).add j) = some u := by
  intro j u hu
  obtain ⟨ao, cp, hv, hwf, hc⟩ := h
  obtain ⟨b', off', hao, hc1⟩ := hc hp
  simp only [Value.slice.injEq] at hv
  obtain ⟨rfl, -, -⟩ := hv
  simp only [Option.some.injEq, Addr.mk.injEq, and_true] at hao
  obtain ⟨rfl, rfl⟩ := hao
  have hj : j < zs.length := by
    have := (List.getElem?_eq_some_iff.1 hu).1
    simpa using this
  rw [Addr.add_lit, hc1 j hj]
  simp [hj] at hu
  simp [List.getD, hj, hu]

theorem run_append_ints {w : World} (base ty : Nat) (v : Value) (n : Nat) (xs : List Value) (hown : w.ownsRow base 2 1 v n xs) (x : Value) (ks : List Int) (hx : IsInts w x ks)
    (hn : n + ks.length ≤ 100000000) (hbase : base ≤ w.heap.size) :
    ∃ v' w', (Builtin.append_ #[26, 26] ty #[v, x]).run Tryz.prog w = .ok v' w' ∧ w'.ownsRow base 2 1 v' (n + ks.length) (xs ++ ks.map (Value.int .i64)) ∧ w.grownBy w' v.ownBlock := by
  obtain ⟨i0, hi, hz0, hz1, hz2⟩ := info_parts info2
  have hml : n + ks.length ≤ maxLen := by unfold maxLen; omega
  by_cases hp : 0 < ks.length
  · have hx' := hx
    obtain ⟨ao, cap, rfl, hwf, hc⟩ := hx'
    obtain ⟨b, off, rfl, hc1⟩ := hc hp
    obtain ⟨v', w', r1, r2, r3, -, -⟩ := run_append_own_at (P := Tryz.prog) w base 26 ty 2 i0 _ 1 8 Tryz.underlying26 hi hz0 hz1 hz2 rfl (by omega) v n xs hown ⟨b, off, none⟩ ks.length cap (ks.map (Value.int .i64)) (by simp) (hx.news hp) (by simp [Value.oneCell']) hml (by omega) hbase
    exact ⟨v', w', r1, r2, r3⟩
  · obtain rfl : ks = [] := List.eq_nil_of_length_eq_zero (by omega)
    obtain ⟨ao, cap, rfl, hwf, hc⟩ := hx
    cases ao with
    | none =>
      obtain ⟨v', w', r1, r2, r3, -, -⟩ := run_append_own_at (P := Tryz.prog) w base 26 ty 2 i0 _ 1 8 Tryz.underlying26 hi hz0 hz1 hz2 rfl (by omega) v n xs hown ⟨0, 0, none⟩ 0 cap [] rfl (by simp) (by simp) hml (by simp at hn; omega) hbase
      refine ⟨v', w', ?_, r2, r3⟩
      rcases hown.2 with ⟨rfl, h0⟩ | ⟨g, cp, cur, rfl, _, _, hle, _⟩
      · exact (append_noneI _ _ _ i0 Tryz.underlying26 hi none 0 0 cap (Nat.le_refl _) w).trans r1
      · exact (append_noneI _ _ _ i0 Tryz.underlying26 hi _ n cp cap hle w).trans r1
    | some ad =>
      obtain ⟨v', w', r1, r2, r3, -, -⟩ := run_append_own_at (P := Tryz.prog) w base 26 ty 2 i0 _ 1 8 Tryz.underlying26 hi hz0 hz1 hz2 rfl (by omega) v n xs hown ad 0 cap [] rfl (by simp) (by simp) hml (by simp at hn; omega) hbase
      exact ⟨v', w', r1, r2, r3⟩

/-- The same at an operation of a plain region. -/
theorem wpList_append_ints {w : World} {base : Nat} {v : Value} {n : Nat} {xs : List Value} (hown : w.ownsRow base 2 1 v n xs) {X : Value} {ks : List Int} (hx : IsInts w X ks)
    {ops : Array Oper} {rest : List Oper} {o : Oper} {a : Act} {Q : Exit → Act → World → Prop} (hgd : o.guard = none) (s x : Operand)
    (ho : o.op = .call { callee := .builtin .append, args := #[s, x], argTypes := #[26, 26] }) (hv : a.eval s = v) (hX : a.eval x = X)
    (hn : n + ks.length ≤ 100000000) (hbase : base ≤ w.heap.size)
    (h : ∀ v' w', w'.ownsRow base 2 1 v' (n + ks.length) (xs ++ ks.map (Value.int .i64)) → w.grownBy w' v.ownBlock → Below base w w' → wpList Tryz.prog ops Q rest (a.put o.dst v') w') :
    wpList Tryz.prog ops Q (o :: rest) a w := by
  refine wpList_plain hgd fun K hK => ?_
  obtain ⟨v', w', hr, h2, h3⟩ := run_append_ints base o.type v n xs hown X ks hx hn hbase
  unfold Oper.wp execOp
  simp only [ho, resolve, invoke, builtin, Sem.run_bind, Sem.run_pure, Result.andThen_ok, List.map_toArray, List.map_cons, List.map_nil, hv, hX, hr]
  exact hK _ _ (h v' w' h2 h3 ((Below.refl _ _).grown h3 hbase (fun j hj => (hown.lt j hj).1)))

end Go.Proofs.YtfgadegpdknocaaGreat

namespace Go.Proofs.YtfgadegpdknocaaGreat
open Go.RowKit

set_option maxHeartbeats 400000 in
theorem l1Ints (v : Value) (zs : List Int) (w : World) (h : IsInts w v zs) (hn : zs.length ≤ 100000000) :
    Calls Tryz.prog 85 #[v] w fun e w' => ∃ v', e = .returned v' ∧ w'.ownsRow w.heap.size 2 1 v' zs.length (zs.map (Value.int .i64)) ∧ Below w.heap.size w w' := by
  have nb : Below w.heap.size w (w.alloc (.cells #[] 2)) := (Below.refl _ _).alloc (Nat.le_refl _) _
  have O : (w.alloc (.cells #[] 2)).ownsRow w.heap.size 2 1 (.slice (some ⟨w.heap.size, 0, none⟩) 0 0) 0 [] := World.ownsRow_lit w _ 0 (Nat.le_refl _) (by unfold maxLen; omega) rfl
  have h1 := h.later nb
  obtain ⟨ao, cap, rfl, -⟩ := h
  have HB := hide nb
  clear nb
  go_enter Tryz.func85, Tryz.ntmps85
  go_wp2_with (at_builtin; refine wpList_append_ints O h1 rfl _ _ rfl rfl rfl (by omega) (by simp) ?_)
  rintro v' w' O2 - hb
  have HB2 := hide ((unhide HB).trans hb)
  clear O h1 hb HB
  go_wp2_with fail
  go_ret
  exact ⟨v', rfl, by simpa using O2, unhide HB2⟩

end Go.Proofs.YtfgadegpdknocaaGreat

namespace Go.Proofs.YtfgadegpdknocaaGreat
open Go.RowKit

set_option maxRecDepth 100000 in
set_option maxHeartbeats 4000000 in
theorem specCopy_pos (b off cap : Nat) (xs : List DItem) (w : World) (h : (Lay.sl Lay.tItem).Reads w [.slice (some ⟨b, off, none⟩) xs.length cap] xs) (hbl : b < w.heap.size) (hn : xs.length ≤ 10000000) (hv : ∀ x ∈ xs, x.vec.length ≤ 100000000) :
    Calls Tryz.prog 87 #[.slice (some ⟨b, off, none⟩) xs.length cap] w fun e w' => ∃ v', e = .returned v' ∧ (∃ rows bls, Grow Lay.tItem w' w.heap.size 133 v' rows xs bls ∧ ∀ c ∈ bls.flatten, w.heap.size ≤ c) ∧ Below w.heap.size w w' := by
  have H := hide h
  have HV := hide hv
  clear h hv
  have G0 : Grow Lay.tItem (w.alloc (.cells #[] 133)) w.heap.size 133 (.slice (some ⟨w.heap.size, 0, none⟩) 0 0) [] [] [] := Grow.nil (World.ownsRow_lit w #[] 0 (Nat.le_refl _) (Nat.zero_le _) rfl)
  have HG := hide G0
  have HB0 := hide ((Below.refl w.heap.size w).alloc (Nat.le_refl _) (.cells #[] 133))
  clear G0
  go_enter Tryz.func87, Tryz.ntmps87
  go_wp2_with fail
  go_loopw [3, 4] (fun v i wr => ∃ (k : Nat) (rows : List (List Value)) (bls : List (List Nat)), k ≤ xs.length ∧ i = .int .i64 k ∧ Grow Lay.tItem wr w.heap.size 133 v rows (xs.take k) bls ∧ (∀ c ∈ bls.flatten, w.heap.size ≤ c) ∧ Below w.heap.size w wr) (fun _ i _ => xs.length - (intOf i).toNat)
  case atStart => exact ⟨0, [], [], Nat.zero_le _, rfl, unhide HG, by simp, unhide HB0⟩
  case round =>
    obtain ⟨k, rows, bls, hk, rfl, hG, hS, hB⟩ := hrel
    have HS := hide hS
    clear hS
    clear HG HB0
    by_cases hlt : k < xs.length
    · obtain ⟨row, hc, hr⟩ := Lay.row_at (unhide H) hlt
      have hr2 := hr
      obtain ⟨a1, d1, rfl, R1⟩ := open_Item hr
      have c0 : w.cell? ⟨b, off + k * 2, none⟩ = some (.int .i64 (xs[k]).id) := hc 0 (by decide)
      have c1 : w.cell? ⟨b, off + k * 2 + 1, none⟩ = some (.slice a1 (xs[k]).vec.length d1) := hc 1 (by decide)
      have hwi : (Lit.int .i64 xs[k].id).wf = true := by obtain ⟨_, hq⟩ := hr2; obtain ⟨_, _, _, _, _, q, _⟩ := lies_Item.1 hq; exact q
      have HT : Hid (xs.take (k + 1) = xs.take k ++ [xs[k]]) := List.take_succ_eq_append_getElem hlt
      have HL : Hid ((xs.take k).length = k) := by show (xs.take k).length = k; rw [List.length_take]; omega
      have HN := hide (unhide HV xs[k] (List.getElem_mem hlt))
      clear hc hr hr2
      generalize hx : xs[k] = x at *
      clear hx
      have HW := hide (Lay.ints_reads R1).wf
      have HR := hide R1
      have HI := hide hwi
      have HB := hide hB
      have HK : Hid ((xs.take k).length + 1 ≤ 100000000) := by show (xs.take k).length + 1 ≤ 100000000; rw [unhide HL]; omega
      have hGD : Grow Lay.tItem wr.drew w.heap.size 133 u3 rows (xs.take k) bls := hG.later (below_drawn (Below.refl _ _) 1)
      have HDZ : Hid (wr.heap.size ≤ wr.drew.heap.size) := Nat.le_refl _
      clear R1 hwi hB hG
      have i1 : (0 : Int) ≤ (k : Int) := by omega
      have i2 : (k : Int) < (xs.length : Int) := by omega
      go_wp2_with fail
      refine wp_region_noPanic ?_
      refine wp_region_held_drew (S := fun w' => Below w.heap.size w w') (by kernel_rfl) (unhide HB).drew (fun hHeld => ?_)
      generalize wr.drew = wD at hHeld hGD HDZ ⊢
      refine wpAnyH_take (i := 0) (oi := { dst := some 12, op := Go.Op.move (Go.Operand.tmp 3), type := 57, pos := "l04_table.go:30", after := #[], guard := none }) (v := ?v0) rfl (by kernel_rfl) (by kernel_rfl) (by kernel_rfl) (fun _ _ _ h => h) (Or.inl ⟨by rfl, ?h0⟩) hHeld ?r0
      case h0 =>
        intro wS hSw
        (try dsimp only at hSw)
        go_simp
        try with_reducible rfl
      case r0 =>
      simp only [Act.put, List.setIfInBounds_toArray, List.set_cons_zero, List.set_cons_succ]
      refine wpAnyH_take (i := 1) (oi := { dst := some 13, op := Go.Op.move (Go.Operand.tmp 0), type := 57, pos := "l04_table.go:30", after := #[], guard := none }) (v := ?v1) rfl (by kernel_rfl) (by kernel_rfl) (by kernel_rfl) (fun _ _ _ h => h) (Or.inl ⟨by rfl, ?h1⟩) hHeld ?r1
      case h1 =>
        intro wS hSw
        (try dsimp only at hSw)
        go_simp
        try with_reducible rfl
      case r1 =>
      simp only [Act.put, List.setIfInBounds_toArray, List.set_cons_zero, List.set_cons_succ]
      refine wpAnyH_take (i := 2) (oi := { dst := some 14, op := Go.Op.move (Go.Operand.tmp 4), type := 3, pos := "l04_table.go:30", after := #[], guard := none }) (v := ?v2) rfl (by kernel_rfl) (by kernel_rfl) (by kernel_rfl) (fun _ _ _ h => h) (Or.inl ⟨by rfl, ?h2⟩) hHeld ?r2
      case h2 =>
        intro wS hSw
        (try dsimp only at hSw)
        go_simp
        try with_reducible rfl
      case r2 =>
      simp only [Act.put, List.setIfInBounds_toArray, List.set_cons_zero, List.set_cons_succ]
      refine wpAnyH_take (i := 3) (oi := { dst := some 15, op := Go.Op.indexAddr 57 (Go.Operand.tmp 13) (Go.Operand.tmp 14), type := 0, pos := "l04_table.go:30", after := #[{ on := 1, ground := Go.Ground.data }, { on := 2, ground := Go.Ground.data }], guard := none }) (v := ?v3) rfl (by kernel_rfl) (by kernel_rfl) (by kernel_rfl) (fun _ _ _ h => h) (Or.inl ⟨by rfl, ?h3⟩) hHeld ?r3
      case h3 =>
        intro wS hSw
        (try dsimp only at hSw)
        go_simp
        try with_reducible rfl
      case r3 =>
      simp only [Act.put, List.setIfInBounds_toArray, List.set_cons_zero, List.set_cons_succ]
      refine wpAnyH_take (i := 4) (oi := { dst := some 16, op := Go.Op.fieldAddr 133 (Go.Operand.tmp 15) 0, type := 0, pos := "l04_table.go:30", after := #[{ on := 3, ground := Go.Ground.data }], guard := none }) (v := ?v4) rfl (by kernel_rfl) (by kernel_rfl) (by kernel_rfl) (fun _ _ _ h => h) (Or.inl ⟨by rfl, ?h4⟩) hHeld ?r4
      case h4 =>
        intro wS hSw
        (try dsimp only at hSw)
        go_simp
        try with_reducible rfl
      case r4 =>
      simp only [Act.put, List.setIfInBounds_toArray, List.set_cons_zero, List.set_cons_succ]
      refine wpAnyH_take (i := 5) (oi := { dst := some 17, op := Go.Op.load 2 (Go.Operand.tmp 16), type := 2, pos := "l04_table.go:30", after := #[{ on := 4, ground := Go.Ground.data }], guard := none }) (v := ?v5) rfl (by kernel_rfl) (by kernel_rfl) (by kernel_rfl) (fun _ _ _ h => h) (Or.inl ⟨by rfl, ?h5⟩) hHeld ?r5
      case h5 =>
        intro wS hSw
        have y0 := (hSw.cell (p := ⟨b, off + k * 2, none⟩) hbl).trans c0
        have y1 := (hSw.cell (p := ⟨b, off + k * 2 + 1, none⟩) hbl).trans c1
        clear hSw
        (try dsimp only at hSw)
        go_simp
        try with_reducible rfl
      case r5 =>
      simp only [Act.put, List.setIfInBounds_toArray, List.set_cons_zero, List.set_cons_succ]
      refine wpAnyH_take (i := 6) (oi := { dst := some 18, op := Go.Op.move (Go.Operand.tmp 0), type := 57, pos := "l04_table.go:30", after := #[], guard := none }) (v := ?v6) rfl (by kernel_rfl) (by kernel_rfl) (by kernel_rfl) (fun _ _ _ h => h) (Or.inl ⟨by rfl, ?h6⟩) hHeld ?r6
      case h6 =>
        intro wS hSw
        (try dsimp only at hSw)
        go_simp
        try with_reducible rfl
      case r6 =>
      simp only [Act.put, List.setIfInBounds_toArray, List.set_cons_zero, List.set_cons_succ]
      refine wpAnyH_take (i := 7) (oi := { dst := some 19, op := Go.Op.move (Go.Operand.tmp 4), type := 3, pos := "l04_table.go:30", after := #[], guard := none }) (v := ?v7) rfl (by kernel_rfl) (by kernel_rfl) (by kernel_rfl) (fun _ _ _ h => h) (Or.inl ⟨by rfl, ?h7⟩) hHeld ?r7
      case h7 =>
        intro wS hSw
        (try dsimp only at hSw)
        go_simp
        try with_reducible rfl
      case r7 =>
      simp only [Act.put, List.setIfInBounds_toArray, List.set_cons_zero, List.set_cons_succ]
      refine wpAnyH_take (i := 8) (oi := { dst := some 20, op := Go.Op.indexAddr 57 (Go.Operand.tmp 18) (Go.Operand.tmp 19), type := 0, pos := "l04_table.go:30", after := #[{ on := 6, ground := Go.Ground.data }, { on := 7, ground := Go.Ground.data }], guard := none }) (v := ?v8) rfl (by kernel_rfl) (by kernel_rfl) (by kernel_rfl) (fun _ _ _ h => h) (Or.inl ⟨by rfl, ?h8⟩) hHeld ?r8
      case h8 =>
        intro wS hSw
        (try dsimp only at hSw)
        go_simp
        try with_reducible rfl
      case r8 =>
      simp only [Act.put, List.setIfInBounds_toArray, List.set_cons_zero, List.set_cons_succ]
      refine wpAnyH_take (i := 9) (oi := { dst := some 21, op := Go.Op.fieldAddr 133 (Go.Operand.tmp 20) 1, type := 0, pos := "l04_table.go:30", after := #[{ on := 8, ground := Go.Ground.data }], guard := none }) (v := ?v9) rfl (by kernel_rfl) (by kernel_rfl) (by kernel_rfl) (fun _ _ _ h => h) (Or.inl ⟨by rfl, ?h9⟩) hHeld ?r9
      case h9 =>
        intro wS hSw
        (try dsimp only at hSw)
        go_simp
        try with_reducible rfl
      case r9 =>
      simp only [Act.put, List.setIfInBounds_toArray, List.set_cons_zero, List.set_cons_succ]
      refine wpAnyH_take (i := 10) (oi := { dst := some 22, op := Go.Op.load 26 (Go.Operand.tmp 21), type := 26, pos := "l04_table.go:30", after := #[{ on := 9, ground := Go.Ground.data }], guard := none }) (v := ?v10) rfl (by kernel_rfl) (by kernel_rfl) (by kernel_rfl) (fun _ _ _ h => h) (Or.inl ⟨by rfl, ?h10⟩) hHeld ?r10
      case h10 =>
        intro wS hSw
        have y0 := (hSw.cell (p := ⟨b, off + k * 2, none⟩) hbl).trans c0
        have y1 := (hSw.cell (p := ⟨b, off + k * 2 + 1, none⟩) hbl).trans c1
        clear hSw
        (try dsimp only at hSw)
        go_simp
        try with_reducible rfl
      case r10 =>
      simp only [Act.put, List.setIfInBounds_toArray, List.set_cons_zero, List.set_cons_succ]
      refine wpAnyH_ready (rs := [11]) (by kernel_rfl) (by simp) ?_
      refine AllReadyH.cons (o := { dst := some 23, op := Go.Op.call { callee := Go.Callee.value (Go.Operand.func 85), args := #[Go.Operand.tmp 22], argTypes := #[26] }, type := 26, pos := "l04_table.go:30", after := #[{ on := 10, ground := Go.Ground.data }], guard := none }) rfl (fun K hK => ?_) AllReadyH.nil
      go_simp
      go_at_call 85
      refine (l1Ints _ x.vec _ (Lay.ints_reads ((unhide HR).later hHeld)) (unhide HN)).mono ?_
      rintro e w3 ⟨v2, rfl, hO, hbw⟩
      have hO2 := Lay.ownInts (unhide HW) (by have := unhide HN; omega) hO
      clear hO
      obtain ⟨ao2, cp2, rfl⟩ := open_sl hO2.reads
      have hG3 := hGD.later hbw
      have hz3 := hbw.size
      try go_wp2_with fail
      refine hK.out _ _ (hHeld.trans (hbw.mono hHeld.size)) (fun hHeld => ?_)
      clear hK K
      try simp only [Act.put, List.setIfInBounds_toArray, List.set_cons_zero, List.set_cons_succ]
      refine wpAnyH_take (i := 12) (oi := { dst := some 24, op := Go.Op.build 133 #[(0, Go.Operand.tmp 17), (1, Go.Operand.tmp 23)], type := 133, pos := "l04_table.go:30", after := #[{ on := 5, ground := Go.Ground.data }, { on := 11, ground := Go.Ground.data }], guard := none }) (v := ?v12) rfl (by kernel_rfl) (by kernel_rfl) (by kernel_rfl) (fun _ _ _ h => h) (Or.inl ⟨by rfl, ?h12⟩) hHeld ?r12
      case h12 =>
        intro wS hSw
        (try dsimp only at hSw)
        go_simp
        try with_reducible rfl
      case r12 =>
      simp only [Act.put, List.setIfInBounds_toArray, List.set_cons_zero, List.set_cons_succ]
      refine wpAnyH_ready (rs := [13]) (by kernel_rfl) (by simp) ?_
      refine AllReadyH.cons (o := { dst := some 25, op := Go.Op.buildSlice 57 1 #[(0, Go.Operand.tmp 24)], type := 57, pos := "l04_table.go:30", after := #[{ on := 12, ground := Go.Ground.data }], guard := none }) rfl (fun K hK => ?_) AllReadyH.nil
      have hH3 := hHeld
      go_simp
      refine hK.out _ _ (hHeld.alloc hHeld.size _) (fun hHeld => ?_)
      clear hK K
      try simp only [Act.put, List.setIfInBounds_toArray, List.set_cons_zero, List.set_cons_succ]
      refine wpAnyH_ready (rs := [14]) (by kernel_rfl) (by simp) ?_
      refine AllReadyH.cons (o := { dst := some 26, op := Go.Op.call { callee := Go.Callee.builtin Go.Builtin.append, args := #[Go.Operand.tmp 12, Go.Operand.tmp 25], argTypes := #[57, 57] }, type := 57, pos := "l04_table.go:30", after := #[{ on := 0, ground := Go.Ground.data }, { on := 13, ground := Go.Ground.data }, { on := 11, ground := Go.Ground.chain }], guard := none }) rfl (fun K hK => ?_) AllReadyH.nil
      obtain ⟨bl2, ⟨hl2, -, -⟩, hr2⟩ := hO2
      refine step_append_Item hG3 (row := [.int .i64 x.id, .slice ao2 x.vec.length cp2]) (x := x) (lies_Item.2 ⟨ao2, cp2, bl2, rfl, rfl, unhide HI, hl2⟩) (fun c hc e => by have h1 := hr2 c hc; have h2 := (hGD.own.lt c e).2; omega) rfl _ _ rfl rfl rfl (by have := unhide HK; omega) (by have := hH3.size; omega) ?_
      rintro g5 cp5 w5 hG5 hb5 - hl5 hz5 -
      have HS5 : Hid (∀ c ∈ (bls ++ [bl2]).flatten, w.heap.size ≤ c) := by
        intro c hc
        rw [List.flatten_append] at hc
        rcases List.mem_append.1 hc with hc | hc
        · exact unhide HS c hc
        · have h1 := hr2 c (by simpa using hc)
          have h2 := (unhide HB).size
          have h4 := unhide HDZ
          omega
      refine hK.out _ _ (hH3.trans hb5) (fun hHeld => ?_)
      clear hK K
      try simp only [Act.put, List.setIfInBounds_toArray, List.set_cons_zero, List.set_cons_succ]
      refine wpAnyH_take (i := 15) (oi := { dst := some 3, op := Go.Op.assign (Go.Operand.tmp 26), type := 57, pos := "l04_table.go:30", after := #[{ on := 14, ground := Go.Ground.data }, { on := 14, ground := Go.Ground.chain }, { on := 0, ground := Go.Ground.phase }, { on := 1, ground := Go.Ground.phase }, { on := 2, ground := Go.Ground.phase }, { on := 3, ground := Go.Ground.phase }, { on := 4, ground := Go.Ground.phase }, { on := 5, ground := Go.Ground.phase }, { on := 6, ground := Go.Ground.phase }, { on := 7, ground := Go.Ground.phase }, { on := 8, ground := Go.Ground.phase }, { on := 9, ground := Go.Ground.phase }, { on := 10, ground := Go.Ground.phase }, { on := 11, ground := Go.Ground.phase }, { on := 12, ground := Go.Ground.phase }, { on := 13, ground := Go.Ground.phase }, { on := 14, ground := Go.Ground.phase }], guard := none }) (v := ?v15) rfl (by kernel_rfl) (by kernel_rfl) (by kernel_rfl) (fun _ _ _ h => h) (Or.inl ⟨by rfl, ?h15⟩) hHeld ?r15
      case h15 =>
        intro wS hSw
        (try dsimp only at hSw)
        go_simp
        try with_reducible rfl
      case r15 =>
      simp only [Act.put, List.setIfInBounds_toArray, List.set_cons_zero, List.set_cons_succ]
      refine wpAnyH_done (by kernel_rfl) ?_ _
      refine NoPanic.normal ?_
      have HG5 := hide hG5
      have HB5 := hide hHeld
      clear hHeld hG5 hGD hG3
      go_wp2_with fail
      go_roundw
      case rel =>
        have hg := unhide HG5
        rw [← unhide HT, unhide HL] at hg
        exact ⟨k + 1, _, _, by omega, by go_num, hg, unhide HS5, unhide HB5⟩
      case measure => simp [intOf]; omega
    · obtain rfl : k = xs.length := by omega
      rw [List.take_length] at hG
      have HG := hide hG
      have HB := hide hB
      clear hG hB H
      go_wp2_with fail
      go_ret
      exact ⟨_, rfl, ⟨_, _, unhide HG, unhide HS⟩, unhide HB⟩

theorem specCopyG (v : Value) (xs : List DItem) (w : World) (h : (Lay.sl Lay.tItem).Reads w [v] xs) (hn : xs.length ≤ 10000000) (hv : ∀ x ∈ xs, x.vec.length ≤ 100000000) :
    Calls Tryz.prog 87 #[v] w fun e w' => ∃ v', e = .returned v' ∧ (∃ rows bls, Grow Lay.tItem w' w.heap.size 133 v' rows xs bls ∧ ∀ c ∈ bls.flatten, w.heap.size ≤ c) ∧ Below w.heap.size w w' := by
  obtain ⟨ao, cap, rfl⟩ := open_sl h
  by_cases hp : 0 < xs.length
  · obtain ⟨b, off, rfl, hbl⟩ := Lay.sl_addr h hp
    exact specCopy_pos b off cap xs w h hbl hn hv
  · obtain rfl : xs = [] := List.eq_nil_of_length_eq_zero (by omega)
    clear h hp hn hv
    have HB := hide ((Below.refl w.heap.size w).alloc (Nat.le_refl _) (.cells #[] 133))
    have HG : Hid (Grow Lay.tItem (w.alloc (.cells #[] 133)) w.heap.size 133 (.slice (some ⟨w.heap.size, 0, none⟩) 0 0) [] [] []) := Grow.nil (World.ownsRow_lit w #[] 0 (Nat.le_refl _) (Nat.zero_le _) rfl)
    go_enter Tryz.func87, Tryz.ntmps87
    go_wp2_with fail
    refine wp_loop_rounds 1 ?_
    rw [rounds_succ]
    go_wp2_with fail
    go_ret
    exact ⟨_, rfl, ⟨_, _, unhide HG, by simp⟩, unhide HB⟩

/-- l4Copy of the model. -/
theorem specCopy (v : Value) (xs : List DItem) (w : World) (h : (Lay.sl Lay.tItem).Reads w [v] xs) (hn : xs.length ≤ 10000000) (hv : ∀ x ∈ xs, x.vec.length ≤ 100000000) :
    Calls Tryz.prog 87 #[v] w fun e w' => ∃ v', e = .returned v' ∧ (Lay.sl Lay.tItem).LiesIn w' [v'] xs w.heap.size w'.heap.size ∧ Below w.heap.size w w' := by
  refine (specCopyG v xs w h hn hv).mono ?_
  rintro e w' ⟨v', rfl, ⟨rows, bls, hG, hs⟩, hb⟩
  exact ⟨v', rfl, hG.toLies (by omega) hs, hb⟩

end Go.Proofs.YtfgadegpdknocaaGreat

namespace Go.Proofs.YtfgadegpdknocaaGreat
open Go.RowKit

theorem take_fold (nw : DItem) (st : List DItem × Bool) (xs : List DItem) (k : Nat) (h : k < xs.length) : (xs.take (k + 1)).foldl (setStep nw) st = setStep nw ((xs.take k).foldl (setStep nw) st) xs[k] := by
  rw [List.take_succ_eq_append_getElem h, List.foldl_append]
  rfl

set_option maxRecDepth 100000 in
set_option maxHeartbeats 4000000 in
theorem specSet_pos (b off cap : Nat) (xs : List DItem) (nw : DItem) (a2 : Option Addr) (d2 : Nat) (has : Bool) (w : World) (h : (Lay.sl Lay.tItem).Reads w [.slice (some ⟨b, off, none⟩) xs.length cap] xs) (hv : (Lay.sl Lay.int).Reads w [.slice a2 nw.vec.length d2] nw.vec) (hw : (Lit.int .i64 nw.id).wf = true)
    (hbl : b < w.heap.size) (hn : xs.length ≤ 1000000) (hx : ∀ x ∈ xs, x.vec.length ≤ 100000000) (hx2 : nw.vec.length ≤ 100000000) :
    Calls Tryz.prog 42 #[.slice (some ⟨b, off, none⟩) xs.length cap, .int .i64 nw.id, .slice a2 nw.vec.length d2, .bool has] w fun e w' => ∃ v', e = .returned v' ∧ (∃ rows bls, Grow Lay.tItem w' w.heap.size 133 v' rows (setM xs nw has) bls ∧ ∀ c ∈ bls.flatten, w.heap.size ≤ c) ∧ Below w.heap.size w w' := by
  obtain ⟨blN, hlN⟩ := hv
  have hN : Lay.tItem.lies w [.int .i64 nw.id, .slice a2 nw.vec.length d2] nw blN := lies_Item.2 ⟨a2, d2, blN, rfl, rfl, hw, hlN⟩
  have hNl : ∀ c ∈ blN, c < w.heap.size := Lay.tItem.lt hN
  have HN := hide hN
  have HNL := hide hNl
  have H := hide h
  have HX := hide hx
  clear h hx hlN hN hNl
  have G0 : Grow Lay.tItem (w.alloc (.cells #[] 133)) w.heap.size 133 (.slice (some ⟨w.heap.size, 0, none⟩) 0 0) [] [] [] := Grow.nil (World.ownsRow_lit w #[] 0 (Nat.le_refl _) (Nat.zero_le _) rfl)
  have HG := hide G0
  have HB0 := hide ((Below.refl w.heap.size w).alloc (Nat.le_refl _) (.cells #[] 133))
  clear G0
  go_enter Tryz.func42, Tryz.ntmps42
  go_wp2_with fail
  go_loopw [9, 10, 11] (fun v d i wr => ∃ (k : Nat) (rows : List (List Value)) (bls : List (List Nat)) (out : List DItem) (dn : Bool), k ≤ xs.length ∧ i = .int .i64 k ∧ d = .bool dn ∧ (xs.take k).foldl (setStep nw) ([], !has) = (out, dn) ∧ out.length ≤ 2 * k ∧ (∀ x ∈ out, x.vec.length ≤ 100000000) ∧ Grow Lay.tItem wr w.heap.size 133 v rows out bls ∧ Below w.heap.size w wr) (fun _ _ i _ => xs.length - (intOf i).toNat)
  case atStart => exact ⟨0, [], [], [], !has, Nat.zero_le _, rfl, rfl, rfl, by simp, by simp, unhide HG, unhide HB0⟩
  case round =>
    obtain ⟨k, rows, bls, out, dn, hk, rfl, rfl, hst, hol, hov, hG, hB⟩ := hrel
    clear HG HB0
    by_cases hlt : k < xs.length
    · obtain ⟨row, hc, hr⟩ := Lay.row_at (unhide H) hlt
      obtain ⟨blX, hlX⟩ := hr
      obtain ⟨a1, d1, bb, rfl, hbb, hwi, hlv⟩ := lies_Item.1 hlX
      have hXl : ∀ c ∈ blX, c < w.heap.size := Lay.tItem.lt hlX
      have c0 : wr.cell? ⟨b, off + k * 2, none⟩ = some (.int .i64 (xs[k]).id) := (hB.cell (p := ⟨b, off + k * 2, none⟩) hbl).trans (hc 0 (by decide))
      have c1 : wr.cell? ⟨b, off + k * 2 + 1, none⟩ = some (.slice a1 (xs[k]).vec.length d1) := (hB.cell (p := ⟨b, off + k * 2 + 1, none⟩) hbl).trans (hc 1 (by decide))
      have hbr : b < wr.heap.size := Nat.lt_of_lt_of_le hbl hB.size
      have HST : Hid ((xs.take (k + 1)).foldl (setStep nw) ([], !has) = setOld nw (setNew nw (out, dn) xs[k]) xs[k]) := by
        show (xs.take (k + 1)).foldl (setStep nw) ([], !has) = _
        rw [take_fold nw _ xs k hlt, hst]
        rfl
      have HXV := hide (unhide HX xs[k] (List.getElem_mem hlt))
      have HLX := hide (Lay.tItem.keep hlX fun c hc => hB.block c (hXl c hc))
      have HXL := hide hXl
      have HLN := hide (Lay.tItem.keep (unhide HN) fun c hc => hB.block c (unhide HNL c hc))
      clear hc hlX hbb hwi hlv hst
      generalize hx : xs[k] = x at *
      clear hx
      have HG := hide hG
      have HB := hide hB
      have HOV := hide hov
      clear hG hB hov
      have hnx : out.length + 3 ≤ 100000000 := by omega
      by_cases hA : dn = false ∧ nw.id ≤ x.id
      · obtain ⟨rfl, hle⟩ := hA
        have hd1 : decide (nw.id ≤ x.id) = true := by simpa using hle
        have e1 : setNew nw (out, false) x = (out ++ [nw], true) := by simp [setNew, hle]
        rw [e1] at HST
        have hG := unhide HG
        have hoff : ∀ c ∈ blN, u9.ownBlock ≠ some c := fun c hc e => by have h1 := unhide HNL c hc; have h2 := (hG.own.lt c e).1; omega
        have hLN := unhide HLN
        have HZ : Hid (w.heap.size ≤ wr.heap.size) := (unhide HB).size
        clear e1 hle HLN HG
        go_wp2_with (at_builtin; refine wpList_append_Item hG hLN hoff rfl _ _ rfl rfl rfl (by omega) (unhide HZ) ?_)
        rintro g5 cp5 w5 hG5 hb5 hE5 hl5 hz5 hor
        have d0 : w5.cell? ⟨b, off + k * 2, none⟩ = some (.int .i64 x.id) := (hb5.cell (p := ⟨b, off + k * 2, none⟩) hbl).trans c0
        have d1' : w5.cell? ⟨b, off + k * 2 + 1, none⟩ = some (.slice a1 x.vec.length d1) := (hb5.cell (p := ⟨b, off + k * 2 + 1, none⟩) hbl).trans c1
        have hbr5 : b < w5.heap.size := by omega
        have HLX5 := hide (Lay.tItem.keep (unhide HLX) fun c hc => hb5.block c (unhide HXL c hc))
        have HB5 := hide ((unhide HB).trans hb5)
        have HG5 := hide hG5
        clear hG hoff hLN hG5 hb5 hE5 hor HB HLX c0 c1 hd1 HZ hz5
        have HOV5 : Hid (∀ y ∈ out ++ [nw], y.vec.length ≤ 100000000) := by
          intro y hy
          rcases List.mem_append.1 hy with hy | hy
          · exact unhide HOV y hy
          · rw [List.mem_singleton.1 hy]; exact hx2
        by_cases he : x.id = nw.id
        · have hd2 : (x.id != nw.id) = false := by simpa using he
          have e2 : setOld nw (out ++ [nw], true) x = (out ++ [nw], true) := by rw [setOld, if_pos he]
          rw [e2] at HST
          clear he e2 HLX5
          go_wp2_with fail
          go_roundw
          case rel => exact ⟨k + 1, _, _, out ++ [nw], true, by omega, by go_num, rfl, unhide HST, by simp; omega, unhide HOV5, unhide HG5, unhide HB5⟩
          case measure => simp [intOf]; omega
        · have hd2 : (x.id != nw.id) = true := by simpa using he
          have e2 : setOld nw (out ++ [nw], true) x = (out ++ [nw] ++ [x], true) := by rw [setOld, if_neg he]
          rw [e2] at HST
          have hG := unhide HG5
          have hoff : ∀ c ∈ blX, (Value.slice (some ⟨g5, 0, none⟩) (out.length + 1) cp5).ownBlock ≠ some c := fun c hc e => by have h1 := unhide HXL c hc; have h2 := (hG.own.lt c e).1; omega
          have hLX := unhide HLX5
          have HZ : Hid (w.heap.size ≤ w5.heap.size) := (unhide HB5).size
          clear he e2 HLX5 HG5
          go_wp2_with (at_builtin; refine wpList_append_Item hG hLX hoff rfl _ _ rfl rfl rfl (by simp; omega) (unhide HZ) ?_)
          rintro g6 cp6 w6 hG6 hb6 hE6 hl6 hz6 hor6
          have HB6 := hide ((unhide HB5).trans hb6)
          have HG6 := hide hG6
          have HOV6 : Hid (∀ y ∈ out ++ [nw] ++ [x], y.vec.length ≤ 100000000) := by
            intro y hy
            rcases List.mem_append.1 hy with hy | hy
            · exact unhide HOV5 y hy
            · rw [List.mem_singleton.1 hy]; exact unhide HXV
          clear hG hoff hLX hG6 hb6 hE6 hor6 HB5 d0 d1' hd2 HZ hz6
          go_wp2_with fail
          go_roundw
          case rel =>
            have hg := unhide HG6
            have e3 : out ++ [nw] ++ [x] = out ++ [nw, x] := by simp
            have hs := unhide HST
            have ho := unhide HOV6
            rw [e3] at hs ho
            exact ⟨k + 1, _, _, out ++ [nw, x], true, by omega, by go_num, rfl, hs, by simp; omega, ho, hg, unhide HB6⟩
          case measure => simp [intOf]; omega
      · have e1 : setNew nw (out, dn) x = (out, dn) := by rw [setNew, if_neg hA]
        rw [e1] at HST
        have hcond : dn = true ∨ decide (nw.id ≤ x.id) = false := by
          cases dn with
          | true => exact Or.inl rfl
          | false => right; simpa using hA
        clear e1 hA
        by_cases he : x.id = nw.id
        · have hd2 : (x.id != nw.id) = false := by simpa using he
          have e2 : setOld nw (out, dn) x = (out, dn) := by rw [setOld, if_pos he]
          rw [e2] at HST
          clear he e2 HLX HLN
          rcases hcond with rfl | hd1
          · go_wp2_with fail
            go_roundw
            case rel => exact ⟨k + 1, _, _, out, true, by omega, by go_num, rfl, unhide HST, by omega, unhide HOV, unhide HG, unhide HB⟩
            case measure => simp [intOf]; omega
          · cases dn with
            | true =>
              go_wp2_with fail
              go_roundw
              case rel => exact ⟨k + 1, _, _, out, true, by omega, by go_num, rfl, unhide HST, by omega, unhide HOV, unhide HG, unhide HB⟩
              case measure => simp [intOf]; omega
            | false =>
              go_wp2_with fail
              go_roundw
              case rel => exact ⟨k + 1, _, _, out, false, by omega, by go_num, rfl, unhide HST, by omega, unhide HOV, unhide HG, unhide HB⟩
              case measure => simp [intOf]; omega
        · have hd2 : (x.id != nw.id) = true := by simpa using he
          have e2 : setOld nw (out, dn) x = (out ++ [x], dn) := by rw [setOld, if_neg he]
          rw [e2] at HST
          have hG := unhide HG
          have hoff : ∀ c ∈ blX, u9.ownBlock ≠ some c := fun c hc e => by have h1 := unhide HXL c hc; have h2 := (hG.own.lt c e).1; omega
          have hLX := unhide HLX
          have HZ : Hid (w.heap.size ≤ wr.heap.size) := (unhide HB).size
          have HOV6 : Hid (∀ y ∈ out ++ [x], y.vec.length ≤ 100000000) := by
            intro y hy
            rcases List.mem_append.1 hy with hy | hy
            · exact unhide HOV y hy
            · rw [List.mem_singleton.1 hy]; exact unhide HXV
          clear he e2 HLX HLN HG
          have hcd : (dn = true) ∨ (dn = false ∧ decide (nw.id ≤ x.id) = false) := by
            rcases hcond with h | h
            · exact Or.inl h
            · cases dn with
              | true => exact Or.inl rfl
              | false => exact Or.inr ⟨rfl, h⟩
          clear hcond
          rcases hcd with rfl | ⟨rfl, hd1⟩
          · go_wp2_with (at_builtin; refine wpList_append_Item hG hLX hoff rfl _ _ rfl rfl rfl (by omega) (unhide HZ) ?_)
            rintro g6 cp6 w6 hG6 hb6 hE6 hl6 hz6 hor6
            have HB6 := hide ((unhide HB).trans hb6)
            have HG6 := hide hG6
            clear hG hoff hLX hG6 hb6 hE6 hor6 HB c0 c1 hd2 HZ hz6
            go_wp2_with fail
            go_roundw
            case rel => exact ⟨k + 1, _, _, out ++ [x], true, by omega, by go_num, rfl, unhide HST, by simp; omega, unhide HOV6, unhide HG6, unhide HB6⟩
            case measure => simp [intOf]; omega
          · go_wp2_with (at_builtin; refine wpList_append_Item hG hLX hoff rfl _ _ rfl rfl rfl (by omega) (unhide HZ) ?_)
            rintro g6 cp6 w6 hG6 hb6 hE6 hl6 hz6 hor6
            have HB6 := hide ((unhide HB).trans hb6)
            have HG6 := hide hG6
            clear hG hoff hLX hG6 hb6 hE6 hor6 HB c0 c1 hd2 HZ hz6 hd1
            go_wp2_with fail
            go_roundw
            case rel => exact ⟨k + 1, _, _, out ++ [x], false, by omega, by go_num, rfl, unhide HST, by simp; omega, unhide HOV6, unhide HG6, unhide HB6⟩
            case measure => simp [intOf]; omega
    · obtain rfl : k = xs.length := by omega
      rw [List.take_length] at hst
      have HM : Hid (setM xs nw has = setFin nw (out, dn)) := by
        show setM xs nw has = _
        rw [setM, hst]
      have HG := hide hG
      have HB := hide hB
      have HOV := hide hov
      have HLN := hide (Lay.tItem.keep (unhide HN) fun c hc => hB.block c (unhide HNL c hc))
      clear hG hB hov hst H
      cases dn with
      | true =>
        have hR := (unhide HG).toReads (by omega)
        have L := specCopyG u9 out wr hR (by omega) (unhide HOV)
        have HL := hide L
        rw [setFin, if_pos rfl] at HM
        clear hR L HLN HG
        go_wp2_with fail
        refine (unhide HL).mono ?_
        rintro e w6 ⟨v6, rfl, hR6, hb6⟩
        have HB6 := hide ((unhide HB).trans (hb6.mono (unhide HB).size))
        obtain ⟨rows6, bls6, hG6, hs6⟩ := hR6
        have HR6 : Hid (∃ rows bls, Grow Lay.tItem w6 w.heap.size 133 v6 rows _ bls ∧ ∀ c ∈ bls.flatten, w.heap.size ≤ c) := ⟨rows6, bls6, hG6.lower (unhide HB).size, fun c hc => Nat.le_trans (unhide HB).size (hs6 c hc)⟩
        clear hb6 hG6 hs6
        go_wp2_with fail
        go_ret
        exact ⟨_, rfl, by rw [unhide HM]; exact unhide HR6, unhide HB6⟩
      | false =>
        have hG := unhide HG
        have hoff : ∀ c ∈ blN, u9.ownBlock ≠ some c := fun c hc e => by have h1 := unhide HNL c hc; have h2 := (hG.own.lt c e).1; omega
        have hLN := unhide HLN
        have HZ : Hid (w.heap.size ≤ wr.heap.size) := (unhide HB).size
        rw [setFin, if_neg (by simp)] at HM
        clear HLN HG
        go_wp2_with (at_builtin; refine wpList_append_Item hG hLN hoff rfl _ _ rfl rfl rfl (by omega) (unhide HZ) ?_)
        rintro g5 cp5 w5 hG5 hb5 hE5 hl5 hz5 hor
        have HOV5 : Hid (∀ y ∈ out ++ [nw], y.vec.length ≤ 100000000) := by
          intro y hy
          rcases List.mem_append.1 hy with hy | hy
          · exact unhide HOV y hy
          · rw [List.mem_singleton.1 hy]; exact hx2
        have hR := hG5.toReads (by simp; omega)
        have HL := hide (specCopyG _ (out ++ [nw]) w5 hR (by simp; omega) (unhide HOV5))
        have HB5 := hide ((unhide HB).trans hb5)
        clear hG hoff hLN hG5 hb5 hE5 hor HB HZ hR hz5
        go_wp2_with fail
        refine (unhide HL).mono ?_
        rintro e w6 ⟨v6, rfl, hR6, hb6⟩
        have HB6 := hide ((unhide HB5).trans (hb6.mono (unhide HB5).size))
        obtain ⟨rows6, bls6, hG6, hs6⟩ := hR6
        have HR6 : Hid (∃ rows bls, Grow Lay.tItem w6 w.heap.size 133 v6 rows _ bls ∧ ∀ c ∈ bls.flatten, w.heap.size ≤ c) := ⟨rows6, bls6, hG6.lower (unhide HB5).size, fun c hc => Nat.le_trans (unhide HB5).size (hs6 c hc)⟩
        clear hb6 hG6 hs6
        go_wp2_with fail
        go_ret
        exact ⟨_, rfl, by rw [unhide HM]; exact unhide HR6, unhide HB6⟩

end Go.Proofs.YtfgadegpdknocaaGreat

namespace Go.Proofs.YtfgadegpdknocaaGreat
open Go.RowKit

set_option maxRecDepth 100000 in
set_option maxHeartbeats 1000000 in
theorem specSet_zero (ao : Option Addr) (cap : Nat) (nw : DItem) (a2 : Option Addr) (d2 : Nat) (has : Bool) (w : World) (hv : (Lay.sl Lay.int).Reads w [.slice a2 nw.vec.length d2] nw.vec) (hw : (Lit.int .i64 nw.id).wf = true) (hx2 : nw.vec.length ≤ 100000000) :
    Calls Tryz.prog 42 #[.slice ao 0 cap, .int .i64 nw.id, .slice a2 nw.vec.length d2, .bool has] w fun e w' => ∃ v', e = .returned v' ∧ (∃ rows bls, Grow Lay.tItem w' w.heap.size 133 v' rows (setM [] nw has) bls ∧ ∀ c ∈ bls.flatten, w.heap.size ≤ c) ∧ Below w.heap.size w w' := by
  obtain ⟨blN, hlN⟩ := hv
  have hN : Lay.tItem.lies w [.int .i64 nw.id, .slice a2 nw.vec.length d2] nw blN := lies_Item.2 ⟨a2, d2, blN, rfl, rfl, hw, hlN⟩
  have hNl : ∀ c ∈ blN, c < w.heap.size := Lay.tItem.lt hN
  have nb : Below w.heap.size w (w.alloc (.cells #[] 133)) := (Below.refl w.heap.size w).alloc (Nat.le_refl _) (.cells #[] 133)
  have G0 : Grow Lay.tItem (w.alloc (.cells #[] 133)) w.heap.size 133 (.slice (some ⟨w.heap.size, 0, none⟩) 0 0) [] [] [] := Grow.nil (World.ownsRow_lit w #[] 0 (Nat.le_refl _) (Nat.zero_le _) rfl)
  have hLN := Lay.tItem.keep hN fun c hc => nb.block c (hNl c hc)
  have hoff : ∀ c ∈ blN, (Value.slice (some ⟨w.heap.size, 0, none⟩) 0 0).ownBlock ≠ some c := fun c hc e => by have h1 := hNl c hc; simp [Value.ownBlock] at e; omega
  have HZ : Hid (w.heap.size ≤ (w.alloc (.cells #[] 133)).heap.size) := nb.size
  have HB0 := hide nb
  cases has with
  | false =>
    have HL := hide (specCopyG _ [] _ (G0.toReads (by simp)) (by simp) (by simp))
    clear G0 hLN hoff hN hNl hlN nb
    go_enter Tryz.func42, Tryz.ntmps42
    go_wp2_with fail
    refine wp_loop_rounds 1 ?_
    rw [rounds_succ]
    go_wp2_with fail
    refine (unhide HL).mono ?_
    rintro e w6 ⟨v6, rfl, hR6, hb6⟩
    have HB6 := hide ((unhide HB0).trans (hb6.mono (unhide HB0).size))
    obtain ⟨rows6, bls6, hG6, hs6⟩ := hR6
    have HR6 : Hid (∃ rows bls, Grow Lay.tItem w6 w.heap.size 133 v6 rows _ bls ∧ ∀ c ∈ bls.flatten, w.heap.size ≤ c) := ⟨rows6, bls6, hG6.lower (unhide HB0).size, fun c hc => Nat.le_trans (unhide HB0).size (hs6 c hc)⟩
    clear hb6 hG6 hs6
    go_wp2_with fail
    go_ret
    exact ⟨_, rfl, unhide HR6, unhide HB6⟩
  | true =>
    clear hN hNl hlN nb
    go_enter Tryz.func42, Tryz.ntmps42
    go_wp2_with fail
    refine wp_loop_rounds 1 ?_
    rw [rounds_succ]
    generalize hW : w.alloc (.cells #[] 133) = W1 at *
    have hsz : w.heap.size < W1.heap.size := by rw [← hW]; simp
    clear hW
    go_wp2_with (at_builtin; refine wpList_append_Item G0 hLN hoff rfl _ _ rfl rfl rfl (by simp) (unhide HZ) ?_)
    rintro g5 cp5 w5 hG5 hb5 hE5 hl5 hz5 hor
    have hR := hG5.toReads (by simp)
    have HL := hide (specCopyG _ ([] ++ [nw]) w5 hR (by simp) (by intro y hy; rw [List.mem_singleton.1 hy]; exact hx2))
    have HB5 := hide ((unhide HB0).trans hb5)
    clear G0 hoff hLN hG5 hb5 hE5 hor HZ hR hz5
    go_wp2_with fail
    refine (unhide HL).mono ?_
    rintro e w6 ⟨v6, rfl, hR6, hb6⟩
    have HB6 := hide ((unhide HB5).trans (hb6.mono (unhide HB5).size))
    obtain ⟨rows6, bls6, hG6, hs6⟩ := hR6
    have HR6 : Hid (∃ rows bls, Grow Lay.tItem w6 w.heap.size 133 v6 rows _ bls ∧ ∀ c ∈ bls.flatten, w.heap.size ≤ c) := ⟨rows6, bls6, hG6.lower (unhide HB5).size, fun c hc => Nat.le_trans (unhide HB5).size (hs6 c hc)⟩
    clear hb6 hG6 hs6
    go_wp2_with fail
    go_ret
    exact ⟨_, rfl, unhide HR6, unhide HB6⟩

theorem specSetG (v : Value) (xs : List DItem) (id : Int) (vec : List Int) (vv : Value) (has : Bool) (w : World) (h : (Lay.sl Lay.tItem).Reads w [v] xs) (hv : (Lay.sl Lay.int).Reads w [vv] vec) (hw : (Lit.int .i64 id).wf = true)
    (hn : xs.length ≤ 1000000) (hx : ∀ x ∈ xs, x.vec.length ≤ 100000000) (hx2 : vec.length ≤ 100000000) :
    Calls Tryz.prog 42 #[v, .int .i64 id, vv, .bool has] w fun e w' => ∃ v', e = .returned v' ∧ (∃ rows bls, Grow Lay.tItem w' w.heap.size 133 v' rows (setM xs ⟨id, vec⟩ has) bls ∧ ∀ c ∈ bls.flatten, w.heap.size ≤ c) ∧ Below w.heap.size w w' := by
  obtain ⟨ao, cap, rfl⟩ := open_sl h
  obtain ⟨ao2, cap2, rfl⟩ := open_sl hv
  by_cases hp : 0 < xs.length
  · obtain ⟨b, off, rfl, hbl⟩ := Lay.sl_addr h hp
    exact specSet_pos b off cap xs ⟨id, vec⟩ ao2 cap2 has w h hv hw hbl hn hx hx2
  · obtain rfl : xs = [] := List.eq_nil_of_length_eq_zero (by omega)
    exact specSet_zero ao cap ⟨id, vec⟩ ao2 cap2 has w hv hw hx2

/-- l4Set of the model. -/
theorem specSet (v : Value) (xs : List DItem) (id : Int) (vec : List Int) (vv : Value) (has : Bool) (w : World) (h : (Lay.sl Lay.tItem).Reads w [v] xs) (hv : (Lay.sl Lay.int).Reads w [vv] vec) (hw : (Lit.int .i64 id).wf = true)
    (hn : xs.length ≤ 1000000) (hx : ∀ x ∈ xs, x.vec.length ≤ 100000000) (hx2 : vec.length ≤ 100000000) :
    Calls Tryz.prog 42 #[v, .int .i64 id, vv, .bool has] w fun e w' => ∃ v', e = .returned v' ∧ (Lay.sl Lay.tItem).LiesIn w' [v'] (setM xs ⟨id, vec⟩ has) w.heap.size w'.heap.size ∧ Below w.heap.size w w' := by
  refine (specSetG v xs id vec vv has w h hv hw hn hx hx2).mono ?_
  rintro e w' ⟨v', rfl, ⟨rows, bls, hG, hs⟩, hb⟩
  have hl := setM_size xs ⟨id, vec⟩ has
  exact ⟨v', rfl, hG.toLies (by omega) hs, hb⟩

end Go.Proofs.YtfgadegpdknocaaGreat
