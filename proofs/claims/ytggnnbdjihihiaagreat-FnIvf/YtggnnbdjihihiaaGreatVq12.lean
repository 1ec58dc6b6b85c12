/-
  Texts of this proof in one: SpecHits, ImplSearchH, AppHits, SpecSearchIvf, Iter, KeysC, ListC, ImplItems, ImplItemsIvf, ImplSearch, ImplGet.
  Their conditions stand in their theorems.
-/
import Derived.Test.YtggnnbdjihihiaaGreatChecked
import Derived.Test.YtggnnbdjihihiaaGreatVq07
import Derived.Test.YtggnnbdjihihiaaGreatVq10
import Derived.Deep.RegionHeld3
import Derived.Test.YtggnnbdjihihiaaGreatVq08
import Derived.Test.YtggnnbdjihihiaaGreatVq11
import Derived.Test.YtggnnbdjihihiaaGreatVq02
import Derived.Test.YtggnnbdjihihiaaGreatVq01
import Derived.Test.YtggnnbdjihihiaaGreatVq03
import Derived.Test.YtggnnbdjihihiaaGreatVq04
import Derived.Shelf.SlIterI.Nil
import Derived.Shelf.SortM.Plain
import Derived.Shelf.SortM.SortNone
import Derived.Ground.GgzProg
import Derived.Ground.SlgmProg
import Derived.Shelf.SlGeneric
import Derived.Test.YtggnnbdjihihiaaGreatProg

namespace Go.Proofs.YtggnnbdjihihiaaGreat
open Go.RowKit

theorem l1ScoreC (v1 v2 : Value) (q v : List Int) (w : World) (h1 : IsInts w v1 q) (h2 : IsInts w v2 v) (f1 : vecFault q = 0) (f2 : vecFault v = 0) :
    Calls Tryz.prog 96 #[v1, v2] w fun e w' => e = .returned (.int .i64 (score3 q v)) ∧ Below w.heap.size w w' := by
  obtain ⟨b, off, cap, x, y, z, rfl, rfl, hbl, c0, c1, c2⟩ := h1.three (vecFault_zero f1).1
  obtain ⟨b2, off2, cap2, x2, y2, z2, rfl, rfl, hbl2, d0, d1, d2⟩ := h2.three (vecFault_zero f2).1
  exact modelSum b off cap b2 off2 cap2 x y z x2 y2 z2 w c0 c1 c2 d0 d1 d2 f1 f2

set_option maxRecDepth 100000 in
set_option maxHeartbeats 4000000 in
theorem specHits_pos (b off cap : Nat) (xs : List DItem) (a2 : Option Addr) (d2 : Nat) (q : List Int) (w : World) (h : (Lay.sl Lay.tItem).Reads w [.slice (some ⟨b, off, none⟩) xs.length cap] xs) (hq : IsInts w (.slice a2 q.length d2) q) (hbl : b < w.heap.size) (hf : tableFault xs = 0) (hfq : vecFault q = 0) :
    Calls Tryz.prog 49 #[.slice (some ⟨b, off, none⟩) xs.length cap, .slice a2 q.length d2] w fun e w' => ∃ v, e = .returned v ∧ w'.ownsRow w.heap.size 44 2 v ((hitsL xs q).map pairH).length (cells2 ((hitsL xs q).map pairH)) ∧ Below w.heap.size w w' := by
  obtain ⟨hlen, hall, -⟩ := tableFault_zero hf
  have HA := hide hall
  have H := hide h
  have HQ := hide hq
  have HFQ := hide hfq
  clear h hall hf hq hfq
  have G0 : Grow Lay.tHit (w.alloc (.cells #[] 44)) w.heap.size 44 (.slice (some ⟨w.heap.size, 0, none⟩) 0 0) [] [] [] := Grow.nil (World.ownsRow_lit w #[] 0 (Nat.le_refl _) (Nat.zero_le _) rfl)
  have HG1 := hide G0
  have HB1 := hide ((Below.refl w.heap.size w).alloc (Nat.le_refl _) (.cells #[] 44))
  clear G0
  go_enter Tryz.func49, Tryz.ntmps49
  go_wp2_with fail
  go_loopw [5, 6] (fun v i wr => ∃ (k : Nat) (rows : List (List Value)) (bls : List (List Nat)), k ≤ xs.length ∧ i = .int .i64 k ∧ Grow Lay.tHit wr w.heap.size 44 v rows (hitsL (xs.take k) q) bls ∧ Below w.heap.size w wr) (fun _ i _ => xs.length - (intOf i).toNat)
  case atStart => exact ⟨0, [], [], Nat.zero_le _, rfl, unhide HG1, unhide HB1⟩
  case round =>
    obtain ⟨k, rows, bls, hk, rfl, hG, hB⟩ := hrel
    clear HG1 HB1
    by_cases hlt : k < xs.length
    · obtain ⟨row, hc, hr⟩ := Lay.row_at (unhide H) hlt
      obtain ⟨a1, d1, rfl, R1⟩ := open_Item hr
      have c0 : w.cell? ⟨b, off + k * 2, none⟩ = some (.int .i64 (xs[k]).id) := hc 0 (by decide)
      have c1 : w.cell? ⟨b, off + k * 2 + 1, none⟩ = some (.slice a1 (xs[k]).vec.length d1) := hc 1 (by decide)
      obtain ⟨hid, hvf⟩ := unhide HA xs[k] (List.getElem_mem hlt)
      have HT : Hid (hitsL (xs.take (k + 1)) q = hitsL (xs.take k) q ++ [hitOf q xs[k]]) := by
        show hitsL (xs.take (k + 1)) q = _
        rw [hitsL, List.take_succ_eq_append_getElem hlt, List.map_append]
        rfl
      have HL : Hid ((hitsL (xs.take k) q).length = k) := by show (hitsL (xs.take k) q).length = k; rw [hitsL, List.length_map, List.length_take]; omega
      clear hc hr
      generalize hx : xs[k] = x at *
      clear hx
      have hbd := score3_bd (unhide HFQ) hvf
      have HWS : Hid ((Lit.int .i64 (score3 q x.vec)).wf = true) := wf_of_bd (by omega)
      have HWI : Hid ((Lit.int .i64 x.id).wf = true) := by
        simp only [idB, Bool.and_eq_true, decide_eq_true_eq] at hid
        exact wf_of_bd (by omega)
      have HI := hide (Lay.ints_reads R1)
      have HVF := hide hvf
      have HB := hide hB
      have hGD : Grow Lay.tHit wr.drew w.heap.size 44 u5 rows (hitsL (xs.take k) q) bls := hG.later (below_drawn (Below.refl _ _) 1)
      clear R1 hG hB hid hvf hbd
      have i1 : (0 : Int) ≤ (k : Int) := by omega
      have i2 : (k : Int) < (xs.length : Int) := by omega
      go_wp2_with fail
      refine wp_region_noPanic ?_
      refine wp_region_held_drew (S := fun w' => Below w.heap.size w w') (by kernel_rfl) (unhide HB).drew (fun hHeld => ?_)
      generalize wr.drew = wD at hHeld hGD ⊢
      refine wpAnyH_take (i := 0) (oi := { dst := some 14, op := Go.Op.move (Go.Operand.tmp 5), type := 31, pos := "l04_table.go:109", after := #[], guard := none }) (v := ?v0) rfl (by kernel_rfl) (by kernel_rfl) (by kernel_rfl) (fun _ _ _ h => h) (Or.inl ⟨by rfl, ?h0⟩) hHeld ?r0
      case h0 =>
        intro wS hSw
        (try dsimp only at hSw)
        go_simp
        try with_reducible rfl
      case r0 =>
      simp only [Act.put, List.setIfInBounds_toArray, List.set_cons_zero, List.set_cons_succ]
      refine wpAnyH_take (i := 1) (oi := { dst := some 15, op := Go.Op.move (Go.Operand.tmp 0), type := 35, pos := "l04_table.go:109", after := #[], guard := none }) (v := ?v1) rfl (by kernel_rfl) (by kernel_rfl) (by kernel_rfl) (fun _ _ _ h => h) (Or.inl ⟨by rfl, ?h1⟩) hHeld ?r1
      case h1 =>
        intro wS hSw
        (try dsimp only at hSw)
        go_simp
        try with_reducible rfl
      case r1 =>
      simp only [Act.put, List.setIfInBounds_toArray, List.set_cons_zero, List.set_cons_succ]
      refine wpAnyH_take (i := 2) (oi := { dst := some 16, op := Go.Op.move (Go.Operand.tmp 6), type := 3, pos := "l04_table.go:109", after := #[], guard := none }) (v := ?v2) rfl (by kernel_rfl) (by kernel_rfl) (by kernel_rfl) (fun _ _ _ h => h) (Or.inl ⟨by rfl, ?h2⟩) hHeld ?r2
      case h2 =>
        intro wS hSw
        (try dsimp only at hSw)
        go_simp
        try with_reducible rfl
      case r2 =>
      simp only [Act.put, List.setIfInBounds_toArray, List.set_cons_zero, List.set_cons_succ]
      refine wpAnyH_take (i := 3) (oi := { dst := some 17, op := Go.Op.indexAddr 35 (Go.Operand.tmp 15) (Go.Operand.tmp 16), type := 0, pos := "l04_table.go:109", after := #[{ on := 1, ground := Go.Ground.data }, { on := 2, ground := Go.Ground.data }], guard := none }) (v := ?v3) rfl (by kernel_rfl) (by kernel_rfl) (by kernel_rfl) (fun _ _ _ h => h) (Or.inl ⟨by rfl, ?h3⟩) hHeld ?r3
      case h3 =>
        intro wS hSw
        (try dsimp only at hSw)
        go_simp
        try with_reducible rfl
      case r3 =>
      simp only [Act.put, List.setIfInBounds_toArray, List.set_cons_zero, List.set_cons_succ]
      refine wpAnyH_take (i := 4) (oi := { dst := some 18, op := Go.Op.fieldAddr 139 (Go.Operand.tmp 17) 0, type := 0, pos := "l04_table.go:109", after := #[{ on := 3, ground := Go.Ground.data }], guard := none }) (v := ?v4) rfl (by kernel_rfl) (by kernel_rfl) (by kernel_rfl) (fun _ _ _ h => h) (Or.inl ⟨by rfl, ?h4⟩) hHeld ?r4
      case h4 =>
        intro wS hSw
        (try dsimp only at hSw)
        go_simp
        try with_reducible rfl
      case r4 =>
      simp only [Act.put, List.setIfInBounds_toArray, List.set_cons_zero, List.set_cons_succ]
      refine wpAnyH_take (i := 5) (oi := { dst := some 19, op := Go.Op.load 2 (Go.Operand.tmp 18), type := 2, pos := "l04_table.go:109", after := #[{ on := 4, ground := Go.Ground.data }], guard := none }) (v := ?v5) rfl (by kernel_rfl) (by kernel_rfl) (by kernel_rfl) (fun _ _ _ h => h) (Or.inl ⟨by rfl, ?h5⟩) hHeld ?r5
      case h5 =>
        intro wS hSw
        have y0 := (hSw.cell (p := ⟨b, off + k * 2, none⟩) hbl).trans c0
        have y1 := (hSw.cell (p := ⟨b, off + k * 2 + 1, none⟩) hbl).trans c1
        clear hSw
        (try dsimp only at hSw)
        go_simp
        try with_reducible rfl
      case r5 =>
      simp only [Act.put, List.setIfInBounds_toArray, List.set_cons_zero, List.set_cons_succ]
      refine wpAnyH_take (i := 6) (oi := { dst := some 20, op := Go.Op.move (Go.Operand.tmp 1), type := 28, pos := "l04_table.go:109", after := #[], guard := none }) (v := ?v6) rfl (by kernel_rfl) (by kernel_rfl) (by kernel_rfl) (fun _ _ _ h => h) (Or.inl ⟨by rfl, ?h6⟩) hHeld ?r6
      case h6 =>
        intro wS hSw
        (try dsimp only at hSw)
        go_simp
        try with_reducible rfl
      case r6 =>
      simp only [Act.put, List.setIfInBounds_toArray, List.set_cons_zero, List.set_cons_succ]
      refine wpAnyH_take (i := 7) (oi := { dst := some 21, op := Go.Op.move (Go.Operand.tmp 0), type := 35, pos := "l04_table.go:109", after := #[], guard := none }) (v := ?v7) rfl (by kernel_rfl) (by kernel_rfl) (by kernel_rfl) (fun _ _ _ h => h) (Or.inl ⟨by rfl, ?h7⟩) hHeld ?r7
      case h7 =>
        intro wS hSw
        (try dsimp only at hSw)
        go_simp
        try with_reducible rfl
      case r7 =>
      simp only [Act.put, List.setIfInBounds_toArray, List.set_cons_zero, List.set_cons_succ]
      refine wpAnyH_take (i := 8) (oi := { dst := some 22, op := Go.Op.move (Go.Operand.tmp 6), type := 3, pos := "l04_table.go:109", after := #[], guard := none }) (v := ?v8) rfl (by kernel_rfl) (by kernel_rfl) (by kernel_rfl) (fun _ _ _ h => h) (Or.inl ⟨by rfl, ?h8⟩) hHeld ?r8
      case h8 =>
        intro wS hSw
        (try dsimp only at hSw)
        go_simp
        try with_reducible rfl
      case r8 =>
      simp only [Act.put, List.setIfInBounds_toArray, List.set_cons_zero, List.set_cons_succ]
      refine wpAnyH_take (i := 9) (oi := { dst := some 23, op := Go.Op.indexAddr 35 (Go.Operand.tmp 21) (Go.Operand.tmp 22), type := 0, pos := "l04_table.go:109", after := #[{ on := 7, ground := Go.Ground.data }, { on := 8, ground := Go.Ground.data }], guard := none }) (v := ?v9) rfl (by kernel_rfl) (by kernel_rfl) (by kernel_rfl) (fun _ _ _ h => h) (Or.inl ⟨by rfl, ?h9⟩) hHeld ?r9
      case h9 =>
        intro wS hSw
        (try dsimp only at hSw)
        go_simp
        try with_reducible rfl
      case r9 =>
      simp only [Act.put, List.setIfInBounds_toArray, List.set_cons_zero, List.set_cons_succ]
      refine wpAnyH_take (i := 10) (oi := { dst := some 24, op := Go.Op.fieldAddr 139 (Go.Operand.tmp 23) 1, type := 0, pos := "l04_table.go:109", after := #[{ on := 9, ground := Go.Ground.data }], guard := none }) (v := ?v10) rfl (by kernel_rfl) (by kernel_rfl) (by kernel_rfl) (fun _ _ _ h => h) (Or.inl ⟨by rfl, ?h10⟩) hHeld ?r10
      case h10 =>
        intro wS hSw
        (try dsimp only at hSw)
        go_simp
        try with_reducible rfl
      case r10 =>
      simp only [Act.put, List.setIfInBounds_toArray, List.set_cons_zero, List.set_cons_succ]
      refine wpAnyH_take (i := 11) (oi := { dst := some 25, op := Go.Op.load 28 (Go.Operand.tmp 24), type := 28, pos := "l04_table.go:109", after := #[{ on := 10, ground := Go.Ground.data }], guard := none }) (v := ?v11) rfl (by kernel_rfl) (by kernel_rfl) (by kernel_rfl) (fun _ _ _ h => h) (Or.inl ⟨by rfl, ?h11⟩) hHeld ?r11
      case h11 =>
        intro wS hSw
        have y0 := (hSw.cell (p := ⟨b, off + k * 2, none⟩) hbl).trans c0
        have y1 := (hSw.cell (p := ⟨b, off + k * 2 + 1, none⟩) hbl).trans c1
        clear hSw
        (try dsimp only at hSw)
        go_simp
        try with_reducible rfl
      case r11 =>
      simp only [Act.put, List.setIfInBounds_toArray, List.set_cons_zero, List.set_cons_succ]
      refine wpAnyH_ready (rs := [12]) (by kernel_rfl) (by simp) ?_
      refine AllReadyH.cons (o := { dst := some 26, op := Go.Op.call { callee := Go.Callee.value (Go.Operand.func 96), args := #[Go.Operand.tmp 20, Go.Operand.tmp 25], argTypes := #[28, 28] }, type := 2, pos := "l04_table.go:109", after := #[{ on := 6, ground := Go.Ground.data }, { on := 11, ground := Go.Ground.data }], guard := none }) rfl (fun K hK => ?_) AllReadyH.nil
      go_simp
      go_at_call 96
      refine (l1ScoreC _ _ q x.vec _ ((unhide HQ).later hHeld) ((unhide HI).later hHeld) (unhide HFQ) (unhide HVF)).mono ?_
      rintro e w3 ⟨rfl, hbw⟩
      have hG3 := hGD.later hbw
      have hz3 := hbw.size
      try go_wp2_with fail
      refine hK.out _ _ (hHeld.trans (hbw.mono hHeld.size)) (fun hHeld => ?_)
      clear hK K
      try simp only [Act.put, List.setIfInBounds_toArray, List.set_cons_zero, List.set_cons_succ]
      refine wpAnyH_take (i := 13) (oi := { dst := some 27, op := Go.Op.build 44 #[(0, Go.Operand.tmp 19), (1, Go.Operand.tmp 26)], type := 44, pos := "l04_table.go:109", after := #[{ on := 5, ground := Go.Ground.data }, { on := 12, ground := Go.Ground.data }], guard := none }) (v := ?v13) rfl (by kernel_rfl) (by kernel_rfl) (by kernel_rfl) (fun _ _ _ h => h) (Or.inl ⟨by rfl, ?h13⟩) hHeld ?r13
      case h13 =>
        intro wS hSw
        (try dsimp only at hSw)
        go_simp
        try with_reducible rfl
      case r13 =>
      simp only [Act.put, List.setIfInBounds_toArray, List.set_cons_zero, List.set_cons_succ]
      refine wpAnyH_ready (rs := [14]) (by kernel_rfl) (by simp) ?_
      refine AllReadyH.cons (o := { dst := some 28, op := Go.Op.buildSlice 31 1 #[(0, Go.Operand.tmp 27)], type := 31, pos := "l04_table.go:109", after := #[{ on := 13, ground := Go.Ground.data }], guard := none }) rfl (fun K hK => ?_) AllReadyH.nil
      have hH3 := hHeld
      go_simp
      refine hK.out _ _ (hHeld.alloc hHeld.size _) (fun hHeld => ?_)
      clear hK K
      try simp only [Act.put, List.setIfInBounds_toArray, List.set_cons_zero, List.set_cons_succ]
      refine wpAnyH_ready (rs := [15]) (by kernel_rfl) (by simp) ?_
      refine AllReadyH.cons (o := { dst := some 29, op := Go.Op.call { callee := Go.Callee.builtin Go.Builtin.append, args := #[Go.Operand.tmp 14, Go.Operand.tmp 28], argTypes := #[31, 31] }, type := 31, pos := "l04_table.go:109", after := #[{ on := 0, ground := Go.Ground.data }, { on := 14, ground := Go.Ground.data }, { on := 12, ground := Go.Ground.chain }], guard := none }) rfl (fun K hK => ?_) AllReadyH.nil
      refine step_append_Hit hG3 (row := [.int .i64 x.id, .int .i64 (score3 q x.vec)]) (x := hitOf q x) (bl := []) (lies_Hit.2 ⟨rfl, rfl, unhide HWI, unhide HWS⟩) (by simp) rfl _ _ rfl rfl rfl (by have := unhide HL; omega) hH3.size ?_
      rintro g5 cp5 w5 hG5 hb5 - hl5 hz5 -
      refine hK.out _ _ (hH3.trans hb5) (fun hHeld => ?_)
      clear hK K
      try simp only [Act.put, List.setIfInBounds_toArray, List.set_cons_zero, List.set_cons_succ]
      refine wpAnyH_take (i := 16) (oi := { dst := some 5, op := Go.Op.assign (Go.Operand.tmp 29), type := 31, pos := "l04_table.go:109", after := #[{ on := 15, ground := Go.Ground.data }, { on := 15, ground := Go.Ground.chain }, { on := 0, ground := Go.Ground.phase }, { on := 1, ground := Go.Ground.phase }, { on := 2, ground := Go.Ground.phase }, { on := 3, ground := Go.Ground.phase }, { on := 4, ground := Go.Ground.phase }, { on := 5, ground := Go.Ground.phase }, { on := 6, ground := Go.Ground.phase }, { on := 7, ground := Go.Ground.phase }, { on := 8, ground := Go.Ground.phase }, { on := 9, ground := Go.Ground.phase }, { on := 10, ground := Go.Ground.phase }, { on := 11, ground := Go.Ground.phase }, { on := 12, ground := Go.Ground.phase }, { on := 13, ground := Go.Ground.phase }, { on := 14, ground := Go.Ground.phase }, { on := 15, ground := Go.Ground.phase }], guard := none }) (v := ?v16) rfl (by kernel_rfl) (by kernel_rfl) (by kernel_rfl) (fun _ _ _ h => h) (Or.inl ⟨by rfl, ?h16⟩) hHeld ?r16
      case h16 =>
        intro wS hSw
        (try dsimp only at hSw)
        go_simp
        try with_reducible rfl
      case r16 =>
      simp only [Act.put, List.setIfInBounds_toArray, List.set_cons_zero, List.set_cons_succ]
      refine wpAnyH_done (by kernel_rfl) ?_ _
      refine NoPanic.normal ?_
      have HG5 := hide hG5
      have HB5 := hide hHeld
      clear hHeld hG5 hGD hG3
      go_wp2_with fail
      go_roundw
      case rel =>
        have hg := unhide HG5
        rw [← unhide HT] at hg
        exact ⟨k + 1, _, _, by omega, by go_num, hg, unhide HB5⟩
      case measure => simp [intOf]; omega
    · obtain rfl : k = xs.length := by omega
      rw [List.take_length] at hG
      have HG := hide (grow_hits hG).1
      have HB := hide hB
      clear hG hB H
      go_wp2_with fail
      go_ret
      exact ⟨_, rfl, unhide HG, unhide HB⟩

theorem specHits_zero (ao : Option Addr) (cap : Nat) (v : Value) (w : World) :
    Calls Tryz.prog 49 #[.slice ao 0 cap, v] w fun e w' => ∃ v, e = .returned v ∧ w'.ownsRow w.heap.size 44 2 v 0 [] ∧ Below w.heap.size w w' := by
  have HO : Hid ((w.alloc (.cells #[] 44)).ownsRow w.heap.size 44 2 (.slice (some ⟨w.heap.size, 0, none⟩) 0 0) 0 []) := World.ownsRow_lit w #[] 0 (Nat.le_refl _) (Nat.zero_le _) rfl
  have HB1 := hide ((Below.refl w.heap.size w).alloc (Nat.le_refl _) (.cells #[] 44))
  go_enter Tryz.func49, Tryz.ntmps49
  go_wp2_with fail
  refine wp_loop_rounds 1 ?_
  rw [rounds_succ]
  go_wp2_with fail
  go_ret
  exact ⟨_, rfl, unhide HO, unhide HB1⟩

/-- l4Hits of the model. -/
theorem specHits (v : Value) (xs : List DItem) (vq : Value) (q : List Int) (w : World) (h : (Lay.sl Lay.tItem).Reads w [v] xs) (hq : IsInts w vq q) (hf : tableFault xs = 0) (hfq : vecFault q = 0) :
    Calls Tryz.prog 49 #[v, vq] w fun e w' => ∃ v, e = .returned v ∧ w'.ownsRow w.heap.size 44 2 v ((hitsL xs q).map pairH).length (cells2 ((hitsL xs q).map pairH)) ∧ Below w.heap.size w w' := by
  obtain ⟨ao, cap, rfl⟩ := open_sl h
  have hvq : ∃ a d, vq = .slice a q.length d := by obtain ⟨a, d, e, -⟩ := hq; exact ⟨a, d, e⟩
  obtain ⟨a2, d2, rfl⟩ := hvq
  by_cases hp : 0 < xs.length
  · obtain ⟨b, off, rfl, hbl⟩ := Lay.sl_addr h hp
    exact specHits_pos b off cap xs a2 d2 q w h hq hbl hf hfq
  · obtain rfl : xs = [] := List.eq_nil_of_length_eq_zero (by omega)
    exact specHits_zero ao cap _ w

end Go.Proofs.YtggnnbdjihihiaaGreat

namespace Go.Proofs.YtggnnbdjihihiaaGreat
open Go.RowKit

/-- The second of two cells holds hits. -/
def HitsAt (w : World) (cs : List Value) (hs : List (Int × Int)) : Prop := ∃ c v, cs = [c, v] ∧ IsHits w v hs
theorem noHits (w : World) : IsHits w (.slice none 0 0) (([] : List DHit).map pairH) := ⟨none, 0, rfl, by simp, ⟨Nat.zero_le _, fun _ => rfl⟩, by simp, by simp⟩
theorem pair_dhit (l : List (Int × Int)) : (l.map dhit).map pairH = l := by
  induction l with
  | nil => rfl
  | cons a l ih => rw [List.map_cons, List.map_cons, ih]; rfl

set_option maxRecDepth 10000 in
set_option maxHeartbeats 1000000 in
theorem implSearchH (v : Value) (xs : List DItem) (vq : Value) (q : List Int) (k : Int) (w : World) (h : (Lay.sl Lay.tItem).Reads w [v] xs) (hq : (Lay.sl Lay.int).Reads w [vq] q) :
    Calls Tryz.prog 12 #[v, vq, .int .i64 k] w fun e w' => ∃ cs, e = .returned (.agg cs.toArray) ∧ Lay.tHitsResult.OwnIn w' cs (searchR xs q k) w.heap.size w'.heap.size ∧ HitsAt w' cs ((searchR xs q k).hits.map pairH) ∧ Below w.heap.size w w' := by
  have HB0 : Below w.heap.size w (w.alloc (.cells #[.int .i64 0, .slice none 0 0] 33)) := (Below.refl _ _).alloc (Nat.le_refl _) _
  have bR : Box w.heap.size #[.int .i64 0, .slice none 0 0] 33 (w.alloc (.cells #[.int .i64 0, .slice none 0 0] 33)) w.heap.size := newBox (Nat.le_refl _)
  have h0 := h.later HB0
  have HQ := hide (Lay.ints_reads (hq.later HB0))
  obtain ⟨ao, cap, rfl⟩ := open_sl h
  obtain ⟨ao2, cap2, rfl⟩ := open_sl hq
  clear h hq
  go_enter Tryz.func12, Tryz.ntmps12
  go_wp2_with fail
  generalize w.alloc (.cells #[.int .i64 0, .slice none 0 0] 33) = W0 at *
  refine (implTab _ xs W0 h0).mono ?_
  rintro e w1 ⟨rfl, hb⟩
  have H := hide (h0.later hb)
  replace HQ := hide ((unhide HQ).later hb)
  replace bR := bR.keep hb
  replace HB0 := HB0.trans (hb.mono HB0.size)
  have z0 : w1.cell? ⟨w.heap.size, 0, none⟩ = some (.int .i64 0) := bR.at 0 _ rfl
  have z1 : w1.cell? ⟨w.heap.size, 1, none⟩ = some (.slice none 0 0) := bR.at 1 _ rfl
  have f0 := bR.soft 0
  have f1 := bR.soft 1
  have l0 := bR.lt
  have HB := hide HB0
  have HR := hide bR
  clear hb HB0 bR h0
  by_cases hf : tableFault xs = 0
  · rw [hf]
    go_wp2_with fail
    refine (implFault _ q _ (unhide HQ)).mono ?_
    rintro e w1 ⟨rfl, rfl⟩
    by_cases hfq : vecFault q = 0
    · rw [hfq]
      have HF := hide hf
      have HFQ := hide hfq
      clear hf hfq
      go_wp2_with fail
      refine (implWanted k _).mono ?_
      rintro e w1 ⟨rfl, rfl⟩
      rw [show (decide (0 ≤ k) && decide (k ≤ 20)) = kB k from rfl]
      cases hk : kB k with
      | false =>
        have HG : Hid (searchR xs q k = ⟨3, []⟩) := by
          show searchR xs q k = _
          rw [searchR, if_pos (unhide HF), if_pos (unhide HFQ), hk, if_neg (by simp)]
        clear hk
        go_wp2_with fail
        refine bodyPost_ret (v := .agg #[.int .i64 3, .slice none 0 0]) (by simp [results, Tryz.results12, go_sem, z0, z1]) rfl ?_
        rw [unhide HG]
        exact ⟨[.int .i64 3, .slice none 0 0], rfl, own_codeHits (by decide), ⟨_, _, rfl, noHits _⟩, ((unhide HB).setCell (by simp) _).setCell (by simp) _⟩
      | true =>
        have HG : Hid (searchR xs q k = ⟨0, (best k.toNat ((hitsL xs q).map pairH)).map dhit⟩) := by
          show searchR xs q k = _
          rw [searchR, if_pos (unhide HF), if_pos (unhide HFQ), hk, if_pos rfl]
        have hkb : 0 ≤ k ∧ k ≤ 20 := by simpa [kB] using hk
        have HBC := hide (best_code (unhide HF) (unhide HFQ) hk)
        have HHR := hide (hits_right (unhide HF) (unhide HFQ))
        have HL := hide (hitsOfC _ xs _ q w1 (unhide H) (unhide HQ) (unhide HF) (unhide HFQ))
        clear hk HQ H
        go_wp2_with fail
        clear z0 z1 f0 f1 l0
        refine (unhide HL).mono ?_
        rintro e w2 ⟨v2, rfl, ho, hb⟩
        have hwf : ∀ p ∈ (hitsL xs q).map pairH, Wf2 p := fun p hp => oneB_wf ((unhide HHR).2 p hp)
        have hI := isHits_row hwf ho
        have bR := (unhide HR).keep hb
        have HB2 := hide ((unhide HB).trans (hb.mono (unhide HB).size))
        have HR2 := hide bR
        have HWF := hide hwf
        have hlen := (unhide HHR).1
        have L := implBest_all _ _ k w2 hI
        rw [(unhide HBC).1, (unhide HBC).2] at L
        have HL2 := hide L
        clear L hI ho hb bR HR HB HL hwf HBC
        go_wp2_with fail
        refine (unhide HL2).mono ?_
        rintro e w3 ⟨r3, rfl, ho3, hb3⟩
        have hO := own_hits ho3 (best_wf (unhide HWF)) (by have := best_len k.toNat ((hitsL xs q).map pairH); omega)
        obtain ⟨ao9, cp9, rfl⟩ := open_sl hO.reads
        simp only [intsRes]
        have bR := (unhide HR2).keep hb3
        have z0 : w3.cell? ⟨w.heap.size, 0, none⟩ = some (.int .i64 0) := bR.at 0 _ rfl
        have z1 : w3.cell? ⟨w.heap.size, 1, none⟩ = some (.slice none 0 0) := bR.at 1 _ rfl
        have f0 := bR.soft 0
        have f1 := bR.soft 1
        have l0 := bR.lt
        have HB9 := hide ((unhide HB2).trans (hb3.mono (unhide HB2).size))
        have HO9 := hide (hO.mono (lo' := w.heap.size + 1) (by have := (unhide HR2).lt; omega) (Nat.le_refl _))
        have hzz : w.heap.size < w2.heap.size := (unhide HR2).lt
        have HH9 : Hid (∀ u0 u1, IsHits ((w3.setCell ⟨w.heap.size, 0, none⟩ u0).setCell ⟨w.heap.size, 1, none⟩ u1) (.slice ao9 ((best k.toNat ((hitsL xs q).map pairH)).map dhit).length cp9) (((best k.toNat ((hitsL xs q).map pairH)).map dhit).map pairH)) := fun u0 u1 => by
          rw [pair_dhit]
          exact isHits_row (best_wf (unhide HWF)) (own_setC (own_setC ho3 hzz _) hzz _)
        clear hzz
        clear hO hb3 bR ho3
        generalize ((best k.toNat ((hitsL xs q).map pairH)).map dhit).length = n9 at *
        go_wp2_with fail
        refine bodyPost_ret (v := .agg #[.int .i64 0, .slice ao9 n9 cp9]) (by simp [results, Tryz.results12, go_sem, z0, z1]) rfl ?_
        rw [unhide HG]
        have hE : Ext (fun c => c = w.heap.size) w3 ((w3.setCell ⟨w.heap.size, 0, none⟩ (.int .i64 0)).setCell ⟨w.heap.size, 1, none⟩ (.slice ao9 n9 cp9)) := ((Ext.refl (fun c => c = w.heap.size) _).setCell ⟨w.heap.size, 0, none⟩ _ rfl).setCell ⟨w.heap.size, 1, none⟩ _ rfl
        exact ⟨[.int .i64 0, .slice ao9 n9 cp9], rfl, own_hitsR (by decide) (((unhide HO9).ext hE (fun c h1 _ h3 => by omega)).mono (by omega) (by simp)), ⟨_, _, rfl, unhide HH9 _ _⟩, ((unhide HB9).setCell (by simp) _).setCell (by simp) _⟩
    · have HG : Hid (searchR xs q k = ⟨vecFault q, []⟩) := by
        show searchR xs q k = _
        rw [searchR, if_pos hf, if_neg hfq]
      have hd : (vecFault q != 0) = true := by simpa using hfq
      have HC : Hid ((Lit.int .i64 (vecFault q)).wf = true) := by
        have hv : 0 ≤ vecFault q ∧ vecFault q ≤ 3 := by unfold vecFault; split <;> (try split) <;> decide
        exact wf_of_bd (by omega)
      clear hf hfq HQ H
      go_wp2_with fail
      refine bodyPost_ret (v := .agg #[.int .i64 (vecFault q), .slice none 0 0]) (by simp [results, Tryz.results12, go_sem, z0, z1]) rfl ?_
      rw [unhide HG]
      exact ⟨[.int .i64 (vecFault q), .slice none 0 0], rfl, own_codeHits (unhide HC), ⟨_, _, rfl, noHits _⟩, ((unhide HB).setCell (by simp) _).setCell (by simp) _⟩
  · have HG : Hid (searchR xs q k = ⟨tableFault xs, []⟩) := by
      show searchR xs q k = _
      rw [searchR, if_neg hf]
    have hd : (tableFault xs != 0) = true := by simpa using hf
    clear hf HQ H
    go_wp2_with fail
    refine bodyPost_ret (v := .agg #[.int .i64 (tableFault xs), .slice none 0 0]) (by simp [results, Tryz.results12, go_sem, z0, z1]) rfl ?_
    rw [unhide HG]
    exact ⟨[.int .i64 (tableFault xs), .slice none 0 0], rfl, own_codeHits (code_wf xs), ⟨_, _, rfl, noHits _⟩, ((unhide HB).setCell (by simp) _).setCell (by simp) _⟩

end Go.Proofs.YtggnnbdjihihiaaGreat

namespace Go.Proofs.YtggnnbdjihihiaaGreat
open Go.RowKit

theorem step_append_hitsB {ops : Array Oper} {o : Oper} {a : Act} {w : World} {K : Act → World → Prop} {Q : Exit → Act → World → Prop} {E : Prop} (s x : Operand)
    (ho : o.op = .call { callee := .builtin .append, args := #[s, x], argTypes := #[31, 31] }) (hw : Region.wanted o (yielded ops a.tmps) = true)
    (base : Nat) (v : Value) (n : Nat) (hs : List (Int × Int)) (hv : a.eval s = v) (hown : w.ownsRow base 44 2 v n (cells2 hs)) (X : Value) (ks : List (Int × Int)) (hX : a.eval x = X) (hx : IsHits w X ks)
    (hn : n + ks.length ≤ 100000000) (hbase : base ≤ w.heap.size)
    (h : ∀ v' w', w'.ownsRow base 44 2 v' (n + ks.length) (cells2 (hs ++ ks)) → Below base w w' → Ext (fun q => v.ownBlock = some q) w w' → (v'.ownBlock = v.ownBlock ∨ v'.ownBlock = some w.heap.size) → K (a.put o.dst v') w') :
    if Region.wanted o (yielded ops a.tmps) = true then Oper.wp Tryz.prog o a w K Q else E := by
  rw [if_pos hw]
  obtain ⟨v', w', hr, h2, h3, h4⟩ := run_append_hits base o.type v n hs hown X ks hx hn hbase
  unfold Oper.wp execOp
  simp only [ho, resolve, invoke, builtin, Sem.run_bind, Sem.run_pure, Result.andThen_ok, List.map_toArray, List.map_cons, List.map_nil, hv, hX, hr]
  have hbw : Below base w w' := (Below.refl _ _).grown h3 hbase (fun j hj => (hown.lt j hj).1)
  exact h v' w' h2 hbw ⟨hbw.os, hbw.tape, hbw.output, hbw.size, fun k hk hn => h3.block k hk (fun e => hn e.symm)⟩ h4

end Go.Proofs.YtggnnbdjihihiaaGreat

namespace Go.Proofs.YtggnnbdjihihiaaGreat
open Go.RowKit

set_option maxRecDepth 100000 in
set_option maxHeartbeats 4000000 in
theorem specSearchIvf (cs : List Value) (x : DIvf) (vq : Value) (q : List Int) (k n : Int) (w : World) (h : Lay.tIvf.Reads w cs x) (hq : (Lay.sl Lay.int).Reads w [vq] q) :
    Calls Tryz.prog 10 #[.agg cs.toArray, vq, .int .i64 k, .int .i64 n] w fun e w' => ∃ cs', e = .returned (.agg cs'.toArray) ∧ Lay.tHitsResult.Reads w' cs' (searchIvfR x q k n) ∧ HitsAt w' cs' ((searchIvfR x q k n).hits.map pairH) ∧ Below w.heap.size w w' := by
  obtain ⟨ac, dc, al, dl, rfl, R0, R1⟩ := open_Ivf h
  have HB0 : Below w.heap.size w ((w.alloc (.cells #[.slice ac x.centers.length dc, .slice al x.lists.length dl] 27)).alloc (.cells #[.int .i64 0, .slice none 0 0] 33)) := ((Below.refl _ _).alloc (Nat.le_refl _) _).alloc (by simp) _
  have bx : Box w.heap.size #[.slice ac x.centers.length dc, .slice al x.lists.length dl] 27 ((w.alloc (.cells #[.slice ac x.centers.length dc, .slice al x.lists.length dl] 27)).alloc (.cells #[.int .i64 0, .slice none 0 0] 33)) w.heap.size := (newBox (Nat.le_refl _)).grow _
  have bR : Box w.heap.size #[.int .i64 0, .slice none 0 0] 33 ((w.alloc (.cells #[.slice ac x.centers.length dc, .slice al x.lists.length dl] 27)).alloc (.cells #[.int .i64 0, .slice none 0 0] 33)) (w.heap.size + 1) := newBoxAt (by omega) (by simp)
  have hA := ivfAt_box bx (R0.later HB0) (R1.later HB0)
  have HQ := hide (Lay.ints_reads (hq.later HB0))
  obtain ⟨aq, dq, rfl⟩ := open_sl hq
  clear hq
  have HR0 := hide R0.liesIn
  have HR1 := hide R1.liesIn
  clear h R0 R1 bx
  go_enter Tryz.func10, Tryz.ntmps10
  go_wp2_with fail
  generalize (w.alloc (.cells #[.slice ac x.centers.length dc, .slice al x.lists.length dl] 27)).alloc (.cells #[.int .i64 0, .slice none 0 0] 33) = W0 at *
  refine (specFault7 w.heap.size x ac dc al dl W0 hA).mono ?_
  rintro e w1 ⟨rfl, hb⟩
  have HA := hide (hA.later hb)
  replace HQ := hide ((unhide HQ).later hb)
  replace bR := bR.keep hb
  replace HB0 := HB0.trans (hb.mono HB0.size)
  have z0 : w1.cell? ⟨w.heap.size + 1, 0, none⟩ = some (.int .i64 0) := bR.at 0 _ rfl
  have z1 : w1.cell? ⟨w.heap.size + 1, 1, none⟩ = some (.slice none 0 0) := bR.at 1 _ rfl
  have f0 := bR.soft 0
  have f1 := bR.soft 1
  have l0 := bR.lt
  have HB := hide HB0
  have HR := hide bR
  have KA : Hid (∀ W, Below (w.heap.size + 1) w1 W → IvfAt W w.heap.size x ac dc al dl) := fun W hW => ⟨(hW.cell (p := ⟨w.heap.size, 0, none⟩) (by show w.heap.size < w.heap.size + 1; omega)).trans (unhide HA).c0, (hW.cell (p := ⟨w.heap.size, 1, none⟩) (by show w.heap.size < w.heap.size + 1; omega)).trans (unhide HA).c1, (((unhide HR0).later (unhide HB)).below hW (by omega)).reads, (((unhide HR1).later (unhide HB)).below hW (by omega)).reads⟩
  clear hb HB0 bR hA
  by_cases hf : ivfFault x = 0
  · rw [hf]
    go_wp2_with fail
    refine (modelFault _ q _ (unhide HQ)).mono ?_
    rintro e w1 ⟨rfl, rfl⟩
    by_cases hfq : vecFault q = 0
    · rw [hfq]
      go_wp2_with fail
      refine (l2K k _).mono ?_
      rintro e w1 ⟨rfl, rfl⟩
      rw [show (decide (0 ≤ k) && decide (k ≤ 20)) = kB k from rfl]
      cases hkk : kB k with
      | false =>
        have HG : Hid (searchIvfR x q k n = ⟨3, []⟩) := by
          show searchIvfR x q k n = _
          rw [searchIvfR, if_pos hf, if_pos hfq, hkk, if_neg (by simp)]
        clear hkk hf hfq HA
        go_wp2_with fail
        refine bodyPost_ret (v := .agg #[.int .i64 (3), .slice none 0 0]) (by simp [results, Tryz.results10, go_sem, z0, z1]) rfl ?_
        rw [unhide HG]
        exact ⟨[.int .i64 (3), .slice none 0 0], rfl, (own_codeHits (lo := 0) (hi := 0) (by decide)).reads, ⟨_, _, rfl, noHits _⟩, ((unhide HB).setCell (by simp) _).setCell (by simp) _⟩
      | true =>
        go_wp2_with fail
        refine (l7N n _).mono ?_
        rintro e w1 ⟨rfl, rfl⟩
        rw [show (decide (0 ≤ n) && decide (n ≤ 6)) = nB n from rfl]
        cases hnn : nB n with
        | false =>
          have HG : Hid (searchIvfR x q k n = ⟨3, []⟩) := by
            show searchIvfR x q k n = _
            rw [searchIvfR, if_pos hf, if_pos hfq, hkk, hnn, if_neg (by simp)]
          clear hkk hnn hf hfq HA
          go_wp2_with fail
          refine bodyPost_ret (v := .agg #[.int .i64 (3), .slice none 0 0]) (by simp [results, Tryz.results10, go_sem, z0, z1]) rfl ?_
          rw [unhide HG]
          exact ⟨[.int .i64 (3), .slice none 0 0], rfl, (own_codeHits (lo := 0) (hi := 0) (by decide)).reads, ⟨_, _, rfl, noHits _⟩, ((unhide HB).setCell (by simp) _).setCell (by simp) _⟩
        | true =>
          have HG : Hid (searchIvfR x q k n = ⟨0, (best k.toNat (probedH x q (probesI x.centers q n.toNat))).map dhit⟩) := by
            show searchIvfR x q k n = _
            rw [searchIvfR, if_pos hf, if_pos hfq, hkk, hnn, if_pos (by rfl)]
          have hkb : 0 ≤ k ∧ k ≤ 20 := by simpa [kB] using hkk
          have hnb : 0 ≤ n ∧ n ≤ 6 := by simpa [nB] using hnn
          have hcf := (ivfFault_zero hf).1
          obtain ⟨hlf, hl6⟩ := ivf_small hf
          have hll := (ivfFault_zero hf).2.1
          have nbh : Below w1.heap.size w1 (w1.alloc (.cells #[] 44)) := (Below.refl _ _).alloc (Nat.le_refl _) _
          have hoh : (w1.alloc (.cells #[] 44)).ownsRow w1.heap.size 44 2 (.slice (some ⟨w1.heap.size, 0, none⟩) 0 0) 0 [] := World.ownsRow_lit w1 #[] 0 (Nat.le_refl _) (by unfold maxLen; omega) rfl
          have L := specProbes _ x.centers _ q n.toNat (w1.alloc (.cells #[] 44)) ((unhide HA).later nbh).cens ((unhide HQ).later nbh) hcf hfq (by omega)
          rw [show ((n.toNat : Nat) : Int) = n by omega] at L
          have HL := hide L
          have HW := hide (probe_wf (q := q) (n := n.toNat) (Nat.le_trans (centersFault_zero hcf).1.2 (by decide)))
          have hpn : (probesI x.centers q n.toNat).length ≤ 6 := Nat.le_trans (probe_len x.centers q n.toNat) (by omega)
          have HAT : Hid (∀ z ∈ probesI x.centers q n.toNat, ∃ m : Nat, z = m ∧ m < x.lists.length) := fun z hz => by
            rw [hll]
            exact probe_at hz
          have HPR := hide (probedH_right hlf hfq)
          have HLF := hide hlf
          have HFQ := hide hfq
          have c0 := ((unhide HA).later nbh).c0
          have HNB := hide nbh
          have HOH := hide hoh
          clear hkk hnn hf hfq hcf hlf hll L nbh hoh
          generalize probesI x.centers q n.toNat = ps at *
          have hl1 := (unhide HR).lt
          clear z0 z1 f0 f1 l0
          go_wp2_with fail
          clear c0
          refine (unhide HL).mono ?_
          rintro e w2 ⟨v2, rfl, hop, hb2⟩
          have hrp := (Lay.ownInts (unhide HW) (by omega) hop).reads
          obtain ⟨ap, dp, rfl⟩ := open_sl hrp
          have hz2 := hb2.size
          have hz1 : w1.heap.size + 1 ≤ w2.heap.size := by simp at hz2; omega
          have HI0 : Hid (w2.ownsRow w1.heap.size 44 2 (.slice (some ⟨w1.heap.size, 0, none⟩) 0 0) 0 []) := own_ext (unhide HOH) (ext_of_below hb2 nowhere) (fun _ _ h => h)
          have HD0 : Hid (∀ c, (Value.slice (some ⟨w1.heap.size, 0, none⟩) 0 0).ownBlock = some c → (Value.slice ap ps.length dp).ownBlock ≠ some c) := fun c h1 h2 => by
            have e1 : w1.heap.size = c := by simpa [Value.ownBlock] using h1
            have := (hop.lt c h2).1
            simp at this
            omega
          have HOP := hide (own_mono (show w1.heap.size ≤ _ by simp) hop)
          have HB2 : Hid (Below w1.heap.size w1 w2) := (unhide HNB).trans (hb2.mono (by simp))
          clear hop hrp hb2 HL HNB HOH hz2
          go_wp2_with fail
          go_loopw [11, 13] (fun u i wr => ∃ j : Nat, j ≤ ps.length ∧ i = .int .i64 j ∧ wr.ownsRow w1.heap.size 44 2 u (probedH x q (ps.take j)).length (cells2 (probedH x q (ps.take j))) ∧ (∀ c, u.ownBlock = some c → (Value.slice ap ps.length dp).ownBlock ≠ some c) ∧ wr.ownsRow w1.heap.size 2 1 (.slice ap ps.length dp) ps.length (ps.map (Value.int .i64)) ∧ Below w1.heap.size w1 wr) (fun _ i _ => ps.length - (intOf i).toNat)
          case atStart => exact ⟨0, Nat.zero_le _, rfl, unhide HI0, unhide HD0, unhide HOP, unhide HB2⟩
          case round =>
            obtain ⟨j, hj, rfl, hown, hdis, hp, hB⟩ := hrel
            clear HI0 HD0 HOP HB2
            by_cases hlt : j < ps.length
            · obtain ⟨m, hm, hml⟩ := unhide HAT ps[j] (List.getElem_mem hlt)
              have HST := hide (probedH_step x q ps j m hlt hm hml)
              have HPL : Hid ((probedH x q (ps.take j)).length ≤ 180) := by
                have h1 := (unhide HPR (ps.take j)).1
                have h2 : (ps.take j).length ≤ 6 := by simp; omega
                show (probedH x q (ps.take j)).length ≤ 180
                omega
              obtain ⟨gp, rfl⟩ : ∃ gp, ap = some ⟨gp, 0, none⟩ := by
                rcases hp.2 with ⟨h1, h0⟩ | ⟨g, cap, cur, h1, -⟩
                · omega
                · simp only [Value.slice.injEq] at h1
                  exact ⟨g, h1.1⟩
              have cP : wr.drew.cell? ⟨gp, j, none⟩ = some (.int .i64 m) := by
                rw [show wr.drew.cell? ⟨gp, j, none⟩ = wr.cell? ⟨gp, j, none⟩ from rfl, hp.cellAt j (by omega), List.getElem?_map, List.getElem?_eq_getElem hlt, hm]
                rfl
              have hA1 := unhide HA
              obtain ⟨bl, ol, rfl, hbl⟩ := Lay.sl_addr hA1.lists (by omega)
              obtain ⟨row, hc, hr⟩ := Lay.row_at hA1.lists hml
              obtain ⟨a5, d5, rfl, R5⟩ := open_IvfList hr
              have cI : w1.cell? ⟨bl, ol + m, none⟩ = some (.slice a5 (x.lists[m]).items.length d5) := one_cell (hc 0 (by decide))
              have cL := hA1.c1
              have htf := unhide HLF x.lists[m] (List.getElem_mem hml)
              have HKL : Hid (((hitsL (x.lists[m]).items q).map pairH).length ≤ 30) := (hits_right htf (unhide HFQ)).1
              have LH : Hid (∀ W, Below w1.heap.size w1 W → Calls Tryz.prog 49 #[.slice a5 (x.lists[m]).items.length d5, .slice aq q.length dq] W fun e w' => ∃ v, e = .returned v ∧ IsHits w' v ((hitsL (x.lists[m]).items q).map pairH) ∧ Below W.heap.size W w') := fun W hW => by
                refine (specHits _ (x.lists[m]).items _ q W (R5.later hW) ((unhide HQ).later hW) htf (unhide HFQ)).mono ?_
                rintro e w' ⟨v, rfl, ho, hb⟩
                exact ⟨v, rfl, isHits_row (fun p hp => oneB_wf ((hits_right htf (unhide HFQ)).2 p hp)) ho, hb⟩
              clear hc hr hA1 R5 htf
              generalize x.lists[m] = ly at *
              generalize probedH x q (ps.take j) = ph at *
              have hownD : wr.drew.ownsRow w1.heap.size 44 2 u11 ph.length (cells2 ph) := hown
              have hpD : wr.drew.ownsRow w1.heap.size 2 1 (.slice (some ⟨gp, 0, none⟩) ps.length dp) ps.length (ps.map (Value.int .i64)) := hp
              have hHD : Below w1.heap.size w1 wr.drew := hB.drew
              have hzD : w1.heap.size ≤ wr.drew.heap.size := hB.size
              have i1 : (0 : Int) ≤ (j : Int) := by omega
              have i2 : (j : Int) < (ps.length : Int) := by omega
              have i3 : (0 : Int) ≤ (m : Int) := by omega
              have i4 : (m : Int) < (x.lists.length : Int) := by omega
              clear hown hp hB hm
              go_upto_region 14 with fail
              refine wp_region_noPanic ?_
              refine wp_region_held_drew (S := fun w' => Below w1.heap.size w1 w') (by kernel_rfl) hHD (fun hHeld => ?_)
              generalize wr.drew = wD at hHeld hownD hpD cP hHD hzD ⊢
              refine wpAnyH_take (i := 0) (oi := { dst := some 46, op := Go.Op.move (Go.Operand.tmp 11), type := 31, pos := "l07_ivf.go:160", after := #[], guard := none }) (v := ?vs0) rfl (by kernel_rfl) (by kernel_rfl) (by kernel_rfl) (fun _ _ _ h => h) (Or.inl ⟨by rfl, ?hs0⟩) hHeld ?rs0
              case hs0 =>
                intro wS hSw
                (try dsimp only at hSw)
                go_simp
                try with_reducible rfl
              case rs0 =>
              simp only [Act.put, List.setIfInBounds_toArray, List.set_cons_zero, List.set_cons_succ]
              refine wpAnyH_take (i := 1) (oi := { dst := some 47, op := Go.Op.fieldAddr 27 (Go.Operand.tmp 4) 1, type := 0, pos := "l07_ivf.go:160", after := #[], guard := none }) (v := ?vs1) rfl (by kernel_rfl) (by kernel_rfl) (by kernel_rfl) (fun _ _ _ h => h) (Or.inl ⟨by rfl, ?hs1⟩) hHeld ?rs1
              case hs1 =>
                intro wS hSw
                (try dsimp only at hSw)
                go_simp
                try with_reducible rfl
              case rs1 =>
              simp only [Act.put, List.setIfInBounds_toArray, List.set_cons_zero, List.set_cons_succ]
              refine wpAnyH_take (i := 2) (oi := { dst := some 48, op := Go.Op.load 25 (Go.Operand.tmp 47), type := 25, pos := "l07_ivf.go:160", after := #[{ on := 1, ground := Go.Ground.data }], guard := none }) (v := ?vs2) rfl (by kernel_rfl) (by kernel_rfl) (by kernel_rfl) (fun _ _ _ h => h) (Or.inl ⟨by rfl, ?hs2⟩) hHeld ?rs2
              case hs2 =>
                intro wS hSw
                have y1 := (hSw.cell (p := ⟨w.heap.size, 1, none⟩) (by show w.heap.size < w1.heap.size; omega)).trans cL
                clear hSw
                (try dsimp only at hSw)
                go_simp
                try with_reducible rfl
              case rs2 =>
              simp only [Act.put, List.setIfInBounds_toArray, List.set_cons_zero, List.set_cons_succ]
              refine wpAnyH_take (i := 3) (oi := { dst := some 49, op := Go.Op.move (Go.Operand.tmp 12), type := 28, pos := "l07_ivf.go:160", after := #[], guard := none }) (v := ?vs3) rfl (by kernel_rfl) (by kernel_rfl) (by kernel_rfl) (fun _ _ _ h => h) (Or.inl ⟨by rfl, ?hs3⟩) hHeld ?rs3
              case hs3 =>
                intro wS hSw
                (try dsimp only at hSw)
                go_simp
                try with_reducible rfl
              case rs3 =>
              simp only [Act.put, List.setIfInBounds_toArray, List.set_cons_zero, List.set_cons_succ]
              refine wpAnyH_take (i := 4) (oi := { dst := some 50, op := Go.Op.move (Go.Operand.tmp 13), type := 3, pos := "l07_ivf.go:160", after := #[], guard := none }) (v := ?vs4) rfl (by kernel_rfl) (by kernel_rfl) (by kernel_rfl) (fun _ _ _ h => h) (Or.inl ⟨by rfl, ?hs4⟩) hHeld ?rs4
              case hs4 =>
                intro wS hSw
                (try dsimp only at hSw)
                go_simp
                try with_reducible rfl
              case rs4 =>
              simp only [Act.put, List.setIfInBounds_toArray, List.set_cons_zero, List.set_cons_succ]
              refine wpAnyH_take (i := 5) (oi := { dst := some 51, op := Go.Op.indexAddr 28 (Go.Operand.tmp 49) (Go.Operand.tmp 50), type := 0, pos := "l07_ivf.go:160", after := #[{ on := 3, ground := Go.Ground.data }, { on := 4, ground := Go.Ground.data }], guard := none }) (v := ?vs5) rfl (by kernel_rfl) (by kernel_rfl) (by kernel_rfl) (fun _ _ _ h => h) (Or.inl ⟨by rfl, ?hs5⟩) hHeld ?rs5
              case hs5 =>
                intro wS hSw
                (try dsimp only at hSw)
                go_simp
                try with_reducible rfl
              case rs5 =>
              simp only [Act.put, List.setIfInBounds_toArray, List.set_cons_zero, List.set_cons_succ]
              refine wpAnyH_take (i := 10) (oi := { dst := some 56, op := Go.Op.move (Go.Operand.tmp 1), type := 28, pos := "l07_ivf.go:160", after := #[], guard := none }) (v := ?vs10) rfl (by kernel_rfl) (by kernel_rfl) (by kernel_rfl) (fun _ _ _ h => h) (Or.inl ⟨by rfl, ?hs10⟩) hHeld ?rs10
              case hs10 =>
                intro wS hSw
                (try dsimp only at hSw)
                go_simp
                try with_reducible rfl
              case rs10 =>
              simp only [Act.put, List.setIfInBounds_toArray, List.set_cons_zero, List.set_cons_succ]
              refine wpAnyH_ready (rs := [6]) (by kernel_rfl) (by simp) ?_
              refine AllReadyH.cons (o := { dst := some 52, op := Go.Op.load 2 (Go.Operand.tmp 51), type := 2, pos := "l07_ivf.go:160", after := #[{ on := 5, ground := Go.Ground.data }], guard := none }) rfl (fun K hK => ?_) AllReadyH.nil
              have y1 := cP
              go_simp
              refine hK.out _ _ hHeld (fun hHeld => ?_)
              clear hK K
              try simp only [Act.put, List.setIfInBounds_toArray, List.set_cons_zero, List.set_cons_succ]
              refine wpAnyH_take (i := 7) (oi := { dst := some 53, op := Go.Op.indexAddr 25 (Go.Operand.tmp 48) (Go.Operand.tmp 52), type := 0, pos := "l07_ivf.go:160", after := #[{ on := 2, ground := Go.Ground.data }, { on := 6, ground := Go.Ground.data }], guard := none }) (v := ?vs7) rfl (by kernel_rfl) (by kernel_rfl) (by kernel_rfl) (fun _ _ _ h => h) (Or.inl ⟨by rfl, ?hs7⟩) hHeld ?rs7
              case hs7 =>
                intro wS hSw
                (try dsimp only at hSw)
                go_simp
                try with_reducible rfl
              case rs7 =>
              simp only [Act.put, List.setIfInBounds_toArray, List.set_cons_zero, List.set_cons_succ]
              refine wpAnyH_take (i := 8) (oi := { dst := some 54, op := Go.Op.fieldAddr 91 (Go.Operand.tmp 53) 0, type := 0, pos := "l07_ivf.go:160", after := #[{ on := 7, ground := Go.Ground.data }], guard := none }) (v := ?vs8) rfl (by kernel_rfl) (by kernel_rfl) (by kernel_rfl) (fun _ _ _ h => h) (Or.inl ⟨by rfl, ?hs8⟩) hHeld ?rs8
              case hs8 =>
                intro wS hSw
                (try dsimp only at hSw)
                go_simp
                try with_reducible rfl
              case rs8 =>
              simp only [Act.put, List.setIfInBounds_toArray, List.set_cons_zero, List.set_cons_succ]
              refine wpAnyH_take (i := 9) (oi := { dst := some 55, op := Go.Op.load 35 (Go.Operand.tmp 54), type := 35, pos := "l07_ivf.go:160", after := #[{ on := 8, ground := Go.Ground.data }], guard := none }) (v := ?vs9) rfl (by kernel_rfl) (by kernel_rfl) (by kernel_rfl) (fun _ _ _ h => h) (Or.inl ⟨by rfl, ?hs9⟩) hHeld ?rs9
              case hs9 =>
                intro wS hSw
                have y1 := (hSw.cell (p := ⟨bl, ol + m, none⟩) (by show bl < w1.heap.size; omega)).trans cI
                clear hSw
                (try dsimp only at hSw)
                go_simp
                try with_reducible rfl
              case rs9 =>
              simp only [Act.put, List.setIfInBounds_toArray, List.set_cons_zero, List.set_cons_succ]
              refine wpAnyH_ready (rs := [11]) (by kernel_rfl) (by simp) ?_
              refine AllReadyH.cons (o := { dst := some 57, op := Go.Op.call { callee := Go.Callee.value (Go.Operand.func 49), args := #[Go.Operand.tmp 55, Go.Operand.tmp 56], argTypes := #[35, 28] }, type := 31, pos := "l07_ivf.go:160", after := #[{ on := 9, ground := Go.Ground.data }, { on := 10, ground := Go.Ground.data }], guard := none }) rfl (fun K hK => ?_) AllReadyH.nil
              go_simp
              go_at_call 49
              refine (unhide LH _ hHeld).mono ?_
              rintro e w3 ⟨v3, rfl, hI3, hb3⟩
              try go_wp2_with fail
              refine hK.out _ _ (below_up (Nat.le_refl _) hHeld hb3) (fun hHeld => ?_)
              clear hK K
              try simp only [Act.put, List.setIfInBounds_toArray, List.set_cons_zero, List.set_cons_succ]
              refine wpAnyH_ready (rs := [12]) (by kernel_rfl) (by simp) ?_
              refine AllReadyH.cons (o := { dst := some 58, op := Go.Op.call { callee := Go.Callee.builtin Go.Builtin.append, args := #[Go.Operand.tmp 46, Go.Operand.tmp 57], argTypes := #[31, 31] }, type := 31, pos := "l07_ivf.go:160", after := #[{ on := 0, ground := Go.Ground.data }, { on := 11, ground := Go.Ground.data }, { on := 11, ground := Go.Ground.chain }], guard := none }) rfl (fun K hK => ?_) AllReadyH.nil
              have hz3 := hb3.size
              have hown3 := own_ext hownD (ext_of_below hb3 nowhere) (fun _ _ h => h)
              have hp3 := own_ext hpD (ext_of_below hb3 nowhere) (fun _ _ h => h)
              refine step_append_hitsB _ _ rfl rfl w1.heap.size u11 ph.length ph rfl hown3 v3 _ rfl hI3 (by have := unhide HKL; have := unhide HPL; omega) (Nat.le_trans hzD hz3) ?_
              intro v5 w5 ho5 hb5 hE5 hor5
              have hp5 := own_ext hp3 hE5 (fun c h1 h2 => hdis c h2 h1)
              refine hK.out _ _ ((below_up (Nat.le_refl _) hHeld (Below.refl _ _)).trans hb5) (fun hHeld => ?_)
              clear hK K
              try simp only [Act.put, List.setIfInBounds_toArray, List.set_cons_zero, List.set_cons_succ]
              refine wpAnyH_take (i := 13) (oi := { dst := some 11, op := Go.Op.assign (Go.Operand.tmp 58), type := 31, pos := "l07_ivf.go:160", after := #[{ on := 12, ground := Go.Ground.data }, { on := 12, ground := Go.Ground.chain }, { on := 0, ground := Go.Ground.phase }, { on := 1, ground := Go.Ground.phase }, { on := 2, ground := Go.Ground.phase }, { on := 3, ground := Go.Ground.phase }, { on := 4, ground := Go.Ground.phase }, { on := 5, ground := Go.Ground.phase }, { on := 6, ground := Go.Ground.phase }, { on := 7, ground := Go.Ground.phase }, { on := 8, ground := Go.Ground.phase }, { on := 9, ground := Go.Ground.phase }, { on := 10, ground := Go.Ground.phase }, { on := 11, ground := Go.Ground.phase }, { on := 12, ground := Go.Ground.phase }], guard := none }) (v := ?vs13) rfl (by kernel_rfl) (by kernel_rfl) (by kernel_rfl) (fun _ _ _ h => h) (Or.inl ⟨by rfl, ?hs13⟩) hHeld ?rs13
              case hs13 =>
                intro wS hSw
                (try dsimp only at hSw)
                go_simp
                try with_reducible rfl
              case rs13 =>
              simp only [Act.put, List.setIfInBounds_toArray, List.set_cons_zero, List.set_cons_succ]
              refine wpAnyH_done (by kernel_rfl) ?_ _
              refine NoPanic.normal ?_
              have HB9 := hide hHeld
              have HO9 : Hid (w5.ownsRow w1.heap.size 44 2 v5 (ph ++ (hitsL ly.items q).map pairH).length (cells2 (ph ++ (hitsL ly.items q).map pairH))) := by
                show w5.ownsRow _ _ _ _ _ _
                rw [List.length_append]
                exact ho5
              have HP9 := hide hp5
              have HD9 : Hid (∀ c, v5.ownBlock = some c → (Value.slice (some ⟨gp, 0, none⟩) ps.length dp).ownBlock ≠ some c) := fun c h1 h2 => by
                rcases hor5 with h | h
                · exact hdis c (h.symm.trans h1) h2
                · have e1 : w3.heap.size = c := by simpa using h.symm.trans h1
                  have := (hp3.lt c h2).2
                  omega
              clear hHeld ho5 hb5 hE5 hp5 hp3 hown3 hor5
              go_wp2_with fail
              go_roundw
              case rel => exact ⟨j + 1, by omega, by go_num, by rw [unhide HST]; exact unhide HO9, unhide HD9, unhide HP9, unhide HB9⟩
              case measure => simp [intOf]; omega
            · obtain rfl : j = ps.length := by omega
              rw [List.take_length] at hown
              have hright := unhide HPR ps
              have hwf : ∀ p ∈ probedH x q ps, Wf2 p := fun p hp => oneB_wf (hright.2 p hp)
              have hphl : (probedH x q ps).length ≤ 180 := by omega
              generalize probedH x q ps = ph at *
              have L := l2Best _ ph k.toNat wr (isHits_row hwf hown) (by omega) (by omega)
              rw [show ((k.toNat : Nat) : Int) = k by omega] at L
              have HL2 := hide L
              have HWF := hide hwf
              have HR2 := hide ((unhide HR).keep hB)
              have HB3 := hide ((unhide HB).trans (hB.mono (unhide HB).size))
              clear L hown hdis hp hB hright hwf hphl
              go_wp2_with fail
              refine (unhide HL2).mono ?_
              rintro e w3 ⟨g3, c3, rfl, ho3, hb3⟩
              have hO := own_hits ho3 (best_wf (unhide HWF)) (by have := best_len k.toNat ph; omega)
              have hlm : (best k.toNat ph).length = ((best k.toNat ph).map dhit).length := (List.length_map _).symm
              rw [hlm] at hO ⊢
              clear hlm
              have bR := (unhide HR2).keep hb3
              have z0 : w3.cell? ⟨w.heap.size + 1, 0, none⟩ = some (.int .i64 0) := bR.at 0 _ rfl
              have z1 : w3.cell? ⟨w.heap.size + 1, 1, none⟩ = some (.slice none 0 0) := bR.at 1 _ rfl
              have f0 := bR.soft 0
              have f1 := bR.soft 1
              have l0 := bR.lt
              have HB9 := hide ((unhide HB3).trans (hb3.mono (unhide HB3).size))
              have hzz : w.heap.size + 1 < wr.heap.size := (unhide HR2).lt
              have HO9 := hide hO
              have HH9 : Hid (∀ u0 u1, IsHits ((w3.setCell ⟨w.heap.size + 1, 0, none⟩ u0).setCell ⟨w.heap.size + 1, 1, none⟩ u1) (.slice (some ⟨g3, 0, none⟩) ((best k.toNat ph).map dhit).length c3) (((best k.toNat ph).map dhit).map pairH)) := fun u0 u1 => by
                rw [pair_dhit, List.length_map]
                exact isHits_row (best_wf (unhide HWF)) (own_setC (own_setC ho3 hzz _) hzz _)
              clear hO hb3 bR ho3
              generalize ((best k.toNat ph).map dhit).length = n9 at *
              go_wp2_with fail
              refine bodyPost_ret (v := .agg #[.int .i64 0, .slice (some ⟨g3, 0, none⟩) n9 c3]) (by simp [results, Tryz.results10, go_sem, z0, z1]) rfl ?_
              rw [unhide HG]
              have hE : Ext (fun c => c = w.heap.size + 1) w3 ((w3.setCell ⟨w.heap.size + 1, 0, none⟩ (.int .i64 0)).setCell ⟨w.heap.size + 1, 1, none⟩ (.slice (some ⟨g3, 0, none⟩) n9 c3)) := ((Ext.refl (fun c => c = w.heap.size + 1) _).setCell ⟨w.heap.size + 1, 0, none⟩ _ rfl).setCell ⟨w.heap.size + 1, 1, none⟩ _ rfl
              exact ⟨[.int .i64 0, .slice (some ⟨g3, 0, none⟩) n9 c3], rfl, (own_hitsR (by decide) ((unhide HO9).ext hE (fun c h1 _ h3 => by omega))).reads, ⟨_, _, rfl, unhide HH9 _ _⟩, ((unhide HB9).setCell (by simp) _).setCell (by simp) _⟩
    · have HG : Hid (searchIvfR x q k n = ⟨vecFault q, []⟩) := by
        show searchIvfR x q k n = _
        rw [searchIvfR, if_pos hf, if_neg hfq]
      have hd : (vecFault q != 0) = true := by simpa using hfq
      clear hf hfq HQ HA
      go_wp2_with fail
      refine bodyPost_ret (v := .agg #[.int .i64 (vecFault q), .slice none 0 0]) (by simp [results, Tryz.results10, go_sem, z0, z1]) rfl ?_
      rw [unhide HG]
      exact ⟨[.int .i64 (vecFault q), .slice none 0 0], rfl, (own_codeHits (lo := 0) (hi := 0) (vcode_wf q)).reads, ⟨_, _, rfl, noHits _⟩, ((unhide HB).setCell (by simp) _).setCell (by simp) _⟩
  · have HG : Hid (searchIvfR x q k n = ⟨ivfFault x, []⟩) := if_neg hf
    have hd : (ivfFault x != 0) = true := by simpa using hf
    clear hf HA HQ
    go_wp2_with fail
    refine bodyPost_ret (v := .agg #[.int .i64 (ivfFault x), .slice none 0 0]) (by simp [results, Tryz.results10, go_sem, z0, z1]) rfl ?_
    rw [unhide HG]
    exact ⟨[.int .i64 (ivfFault x), .slice none 0 0], rfl, (own_codeHits (lo := 0) (hi := 0) (ivfFault_wf x)).reads, ⟨_, _, rfl, noHits _⟩, ((unhide HB).setCell (by simp) _).setCell (by simp) _⟩

end Go.Proofs.YtggnnbdjihihiaaGreat

namespace Go.Proofs
open Go.Shelf
def Tryz.keys101_ren : Go.Shelf.Ren := ⟨fun | 7 => 101 | 10 => 135 | n => n, fun | 23 => 94 | 26 => 2 | 3 => 101 | 28 => 149 | 0 => 0 | 27 => 148 | 33 => 79 | 4 => 4 | n => n, fun | n => n⟩
theorem Tryz.keys101 : Go.Proofs.SlLaysZI.n7 Tryz.prog Tryz.keys101_ren := {
  mixed := by kernel_rfl
  f7 := ⟨Tryz.f101.name, by decide, Tryz.func101.trans (congrArg some (by kernel_rfl))⟩
  f10 := ⟨Tryz.f135.name, by decide, Tryz.func135.trans (congrArg some (by kernel_rfl))⟩
  t0 := Tryz.underlying0
  a0 := Tryz.isAgg0
  z0 := Tryz.sizeOf0
  v0 := Tryz.zeroValue0
  t4 := Tryz.underlying4
  a4 := Tryz.isAgg4
  z4 := Tryz.sizeOf4
  v4 := Tryz.zeroValue4
  t23 := Tryz.underlying94
  a23 := Tryz.isAgg94
  z23 := Tryz.sizeOf94
  v23 := Tryz.zeroValue94
  t26 := Tryz.underlying2
  a26 := Tryz.isAgg2
  z26 := Tryz.sizeOf2
  v26 := Tryz.zeroValue2
  t27 := Tryz.underlying148
  a27 := Tryz.isAgg148
  z27 := Tryz.sizeOf148
  v27 := Tryz.zeroValue148
  t28 := Tryz.underlying149
  a28 := Tryz.isAgg149
  z28 := Tryz.sizeOf149
  v28 := Tryz.zeroValue149
  t33 := Tryz.underlying79
  a33 := Tryz.isAgg79
  z33 := Tryz.sizeOf79
  v33 := Tryz.zeroValue79 }
def Tryz.sorted100_ren : Go.Shelf.Ren := ⟨fun | 6 => 100 | 8 => 133 | 9 => 134 | 11 => 147 | 13 => 149 | 12 => 148 | 23 => 166 | 24 => 167 | 14 => 157 | 15 => 158 | 16 => 159 | 17 => 160 | 18 => 161 | 19 => 162 | 20 => 163 | 21 => 164 | 22 => 165 | 25 => 170 | 26 => 171 | 27 => 172 | 28 => 173 | 29 => 174 | 30 => 144 | 31 => 177 | n => n, fun | 26 => 2 | 28 => 149 | 24 => 28 | 0 => 0 | 3 => 3 | 37 => 186 | 48 => 204 | 50 => 206 | 4 => 4 | 40 => 196 | 39 => 195 | 45 => 201 | 5 => 5 | 9 => 9 | 51 => 207 | 55 => 211 | 57 => 214 | 58 => 215 | 33 => 79 | n => n, fun | n => n⟩
theorem Tryz.sorted100 : Go.Proofs.SlLaysZI.n6 Tryz.prog Tryz.sorted100_ren := {
  mixed := by kernel_rfl
  f6 := ⟨Tryz.f100.name, by decide, Tryz.func100.trans (congrArg some (by kernel_rfl))⟩
  f8 := ⟨Tryz.f133.name, by decide, Tryz.func133.trans (congrArg some (by kernel_rfl))⟩
  f11 := ⟨Tryz.f147.name, by decide, Tryz.func147.trans (congrArg some (by kernel_rfl))⟩
  t0 := Tryz.underlying0
  a0 := Tryz.isAgg0
  z0 := Tryz.sizeOf0
  v0 := Tryz.zeroValue0
  t24 := Tryz.underlying28
  a24 := Tryz.isAgg28
  z24 := Tryz.sizeOf28
  v24 := Tryz.zeroValue28
  t26 := Tryz.underlying2
  a26 := Tryz.isAgg2
  z26 := Tryz.sizeOf2
  v26 := Tryz.zeroValue2
  t28 := Tryz.underlying149
  a28 := Tryz.isAgg149
  z28 := Tryz.sizeOf149
  v28 := Tryz.zeroValue149
  i26 := by kernel_rfl }
def Tryz.sort134_ren : Go.Shelf.Ren := ⟨fun | 5 => 134 | 8 => 149 | 7 => 148 | 19 => 166 | 20 => 167 | 10 => 157 | 11 => 158 | 12 => 159 | 13 => 160 | 14 => 161 | 15 => 162 | 16 => 163 | 17 => 164 | 18 => 165 | 30 => 170 | 31 => 171 | 32 => 172 | 33 => 173 | 34 => 174 | 35 => 144 | 40 => 177 | n => n, fun | 23 => 28 | 25 => 2 | 3 => 3 | 32 => 186 | 22 => 28 | 0 => 0 | 44 => 204 | 46 => 206 | 4 => 4 | 36 => 196 | 35 => 195 | 41 => 201 | 5 => 5 | 9 => 9 | 53 => 207 | 57 => 211 | 63 => 214 | 64 => 215 | n => n, fun | n => n⟩
theorem Tryz.sort134 : Go.Proofs.SlLaysM.n5 Tryz.prog Tryz.sort134_ren := {
  mixed := by kernel_rfl
  f5 := ⟨Tryz.f134.name, by decide, Tryz.func134.trans (congrArg some (by kernel_rfl))⟩
  f7 := ⟨Tryz.f148.name, by decide, Tryz.func148.trans (congrArg some (by kernel_rfl))⟩
  f8 := Tryz.func149.trans (congrArg some (by kernel_rfl))
  f10 := ⟨Tryz.f157.name, by decide, Tryz.func157.trans (congrArg some (by kernel_rfl))⟩
  f11 := ⟨Tryz.f158.name, by decide, Tryz.func158.trans (congrArg some (by kernel_rfl))⟩
  f12 := ⟨Tryz.f159.name, by decide, Tryz.func159.trans (congrArg some (by kernel_rfl))⟩
  f13 := ⟨Tryz.f160.name, by decide, Tryz.func160.trans (congrArg some (by kernel_rfl))⟩
  f14 := ⟨Tryz.f161.name, by decide, Tryz.func161.trans (congrArg some (by kernel_rfl))⟩
  f15 := ⟨Tryz.f162.name, by decide, Tryz.func162.trans (congrArg some (by kernel_rfl))⟩
  f16 := ⟨Tryz.f163.name, by decide, Tryz.func163.trans (congrArg some (by kernel_rfl))⟩
  f17 := ⟨Tryz.f164.name, by decide, Tryz.func164.trans (congrArg some (by kernel_rfl))⟩
  f18 := ⟨Tryz.f165.name, by decide, Tryz.func165.trans (congrArg some (by kernel_rfl))⟩
  f19 := Tryz.func166.trans (congrArg some (by kernel_rfl))
  f20 := Tryz.func167.trans (congrArg some (by kernel_rfl))
  f30 := ⟨Tryz.f170.name, by decide, Tryz.func170.trans (congrArg some (by kernel_rfl))⟩
  f31 := Tryz.func171.trans (congrArg some (by kernel_rfl))
  f32 := Tryz.func172.trans (congrArg some (by kernel_rfl))
  f33 := ⟨Tryz.f173.name, by decide, Tryz.func173.trans (congrArg some (by kernel_rfl))⟩
  f34 := ⟨Tryz.f174.name, by decide, Tryz.func174.trans (congrArg some (by kernel_rfl))⟩
  f35 := ⟨Tryz.f144.name, by decide, Tryz.func144.trans (congrArg some (by kernel_rfl))⟩
  f40 := ⟨Tryz.f177.name, by decide, Tryz.func177.trans (congrArg some (by kernel_rfl))⟩
  t0 := Tryz.underlying0
  a0 := Tryz.isAgg0
  z0 := Tryz.sizeOf0
  v0 := Tryz.zeroValue0
  t3 := Tryz.underlying3
  a3 := Tryz.isAgg3
  z3 := Tryz.sizeOf3
  v3 := Tryz.zeroValue3
  t4 := Tryz.underlying4
  a4 := Tryz.isAgg4
  z4 := Tryz.sizeOf4
  v4 := Tryz.zeroValue4
  t5 := Tryz.underlying5
  a5 := Tryz.isAgg5
  z5 := Tryz.sizeOf5
  v5 := Tryz.zeroValue5
  t9 := Tryz.underlying9
  a9 := Tryz.isAgg9
  z9 := Tryz.sizeOf9
  v9 := Tryz.zeroValue9
  t22 := Tryz.underlying28
  a22 := Tryz.isAgg28
  z22 := Tryz.sizeOf28
  v22 := Tryz.zeroValue28
  t23 := Tryz.underlying28
  a23 := Tryz.isAgg28
  z23 := Tryz.sizeOf28
  v23 := Tryz.zeroValue28
  t25 := Tryz.underlying2
  a25 := Tryz.isAgg2
  z25 := Tryz.sizeOf2
  v25 := Tryz.zeroValue2
  t32 := Tryz.underlying186
  a32 := Tryz.isAgg186
  z32 := Tryz.sizeOf186
  v32 := Tryz.zeroValue186
  t35 := Tryz.underlying195
  a35 := Tryz.isAgg195
  z35 := Tryz.sizeOf195
  v35 := Tryz.zeroValue195
  t36 := Tryz.underlying196
  a36 := Tryz.isAgg196
  z36 := Tryz.sizeOf196
  v36 := Tryz.zeroValue196
  t41 := Tryz.underlying201
  a41 := Tryz.isAgg201
  z41 := Tryz.sizeOf201
  v41 := Tryz.zeroValue201
  t44 := Tryz.underlying204
  a44 := Tryz.isAgg204
  z44 := Tryz.sizeOf204
  v44 := Tryz.zeroValue204
  t46 := Tryz.underlying206
  a46 := Tryz.isAgg206
  z46 := Tryz.sizeOf206
  v46 := Tryz.zeroValue206
  t53 := Tryz.underlying207
  a53 := Tryz.isAgg207
  z53 := Tryz.sizeOf207
  v53 := Tryz.zeroValue207
  t57 := Tryz.underlying211
  a57 := Tryz.isAgg211
  z57 := Tryz.sizeOf211
  v57 := Tryz.zeroValue211
  t63 := Tryz.underlying214
  a63 := Tryz.isAgg214
  z63 := Tryz.sizeOf214
  v63 := Tryz.zeroValue214
  t64 := Tryz.underlying215
  a64 := Tryz.isAgg215
  z64 := Tryz.sizeOf215
  v64 := Tryz.zeroValue215 }
end Go.Proofs

namespace Go.Proofs.YtggnnbdjihihiaaGreat
open Go.RowKit Go.Maps Go.Sort Go.Shelf

theorem sorts64 (m : Nat) : AnyZI.SortsIn Tryz.prog Tryz.sorted100_ren Fence.wide m :=
  ⟨fun blk off cap ss W hH hblk hsz => callsIn_wide.2 (AnyM.slices_Sort_int Tryz.sort134 blk off cap ss W hH hblk hsz),
   fun p cap W => callsIn_wide.2 (AnyM.slices_Sort_int_none Tryz.sort134 p cap W)⟩
/-- maps.Keys. -/
theorem mapKeys (mb : Option Nat) (W : World) : Calls Tryz.prog 101 #[.map mb] W fun e w' => e = .returned (.func (.func 135) #[] #[.pointer (some ⟨W.heap.size, 0, none⟩)]) ∧ w' = W.alloc (.cells #[.map mb] 94) :=
  (callsIn_wide (n := 5)).1 (AnyZI.keys_in Tryz.keys101 Fence.wide 5 trivial rfl mb W)

set_option maxHeartbeats 1000000 in
/-- slices.Sorted of them. -/
theorem sortedKeys (b n : Nat) (xs : List DItem) (w : World) (hT : TabAt w b n xs) (hx : xs.length ≤ 1000) :
    Calls Tryz.prog 100 #[.func (.func 135) #[] #[.pointer (some ⟨w.heap.size, 0, none⟩)]] (w.alloc (.cells #[.map (some b)] 94)) fun e w' => ∃ (v : Value) (ss : List Int), e = .returned v ∧ ss.Perm (intKeys (mapD xs)) ∧
      w'.ownsRow (w.alloc (.cells #[.map (some b)] 94)).heap.size 2 1 v ss.length ((ss.mergeSort (fun x y => decide (x ≤ y))).map encZ) ∧ Below (w.alloc (.cells #[.map (some b)] 94)).heap.size (w.alloc (.cells #[.map (some b)] 94)) w' := by
  have hown : w.ownsMap Tryz.prog 2 vecR b n (mapD xs) := hT
  have hbl := hown.lt
  have hmax : Maps.size (mapD xs) ≤ maxLen := by rw [size_mapD]; unfold maxLen; omega
  have hbytes : Maps.size (mapD xs) * 8 ≤ 140737488355328 := by rw [size_mapD]; omega
  have hseq : SeqGives Fence.wide 2 Tryz.prog 135 #[.pointer (some ⟨w.heap.size, 0, none⟩)] encZ (fun ss => ss.Perm (intKeys (mapD xs))) (Maps.size (mapD xs)) (w.alloc (.cells #[.map (some b)] 94)) :=
    AnyZI.keys_gives (ρ := Tryz.keys101_ren) { Tryz.keys101 with } Fence.wide _ trivial rfl (by omega) w.heap.size b n (mapD xs) _ (by simp) (by simp) (by
      obtain ⟨es, clock, hb, Ft, hs, hD⟩ := hown
      exact ⟨es, clock, (Below.heap_alloc _ _ b hbl).trans hb, Ft, hs, hD⟩)
  have cS := AnyZI.sorted_in Tryz.sorted100 Fence.wide 5 trivial trivial trivial trivial rfl (by omega) (sorts64 _) (enters_of Tryz.func134 (by kernel_rfl) rfl) 135 #[.pointer (some ⟨w.heap.size, 0, none⟩)] trivial (enters_of Tryz.func135 (by kernel_rfl) rfl) _ _ hmax hbytes _ hseq
  change CallsIn _ _ Tryz.prog 100 _ _ _ at cS
  refine ((callsIn_wide (n := 5)).1 cS).mono ?_
  rintro e w' ⟨v, ss, rfl, hS, hrow, -, hb⟩
  exact ⟨v, ss, rfl, hS, hrow, hb⟩

theorem encZ_eq : encZ = Value.int .i64 := rfl
theorem intKeys_mapD (xs : List DItem) : intKeys (mapD xs) = xs.map (·.id) := by
  simp only [intKeys, mapD, mapL, List.map_map]
  exact List.map_congr_left fun _ _ => rfl
/-- Rising Ids sort to themselves. -/
theorem sort_ids {xs : List DItem} (h : Rising xs) {ss : List Int} (hp : ss.Perm (xs.map (·.id))) : ss.mergeSort (fun x y => decide (x ≤ y)) = xs.map (·.id) := by
  have tr : ∀ a b c : Int, decide (a ≤ b) = true → decide (b ≤ c) = true → decide (a ≤ c) = true := fun a b c h1 h2 => by simp only [decide_eq_true_eq] at *; omega
  have tot : ∀ a b : Int, (decide (a ≤ b) || decide (b ≤ a)) = true := fun a b => by simp only [Bool.or_eq_true, decide_eq_true_eq]; omega
  refine List.Perm.eq_of_pairwise (le := fun a b => decide (a ≤ b) = true) (fun a b _ _ h1 h2 => ?_) (List.pairwise_mergeSort tr tot ss) ?_ ((List.mergeSort_perm ss _).trans hp)
  · simp only [decide_eq_true_eq] at h1 h2
    omega
  · refine List.pairwise_map.2 (h.imp fun {a b} hab => ?_)
    simp only [decide_eq_true_eq]
    omega

end Go.Proofs.YtggnnbdjihihiaaGreat

namespace Go.Proofs.YtggnnbdjihihiaaGreat
open Go.RowKit

set_option maxHeartbeats 400000 in
theorem listOf3 (x y z : Int) (w : World) :
    Calls Tryz.prog 57 #[arr3 x y z] w fun e w' => e = .returned (.slice (some ⟨w.heap.size + 1, 0, none⟩) 3 3) ∧
      (w.alloc (.cells #[.int .i64 x, .int .i64 y, .int .i64 z] 101)).alloc (.cells #[.int .i64 x, .int .i64 y, .int .i64 z] 2) = w' := by
  have hmk : ∀ w : World, (Instr.makeSlice 28 (.int .i64 3) (.int .i64 3)).run Tryz.prog w = .ok (.slice (some ⟨w.heap.size, 0, none⟩) 3 3) (w.alloc (.cells #[.int .i64 0, .int .i64 0, .int .i64 0] 2)) := fun _ => by kernel_rfl
  have i0 : ∀ w : World, (Instr.index 101 (.agg #[.int .i64 x, .int .i64 y, .int .i64 z]) (.int .i64 0)).run Tryz.prog w = .ok (.int .i64 x) w := fun _ => by kernel_rfl
  have i1 : ∀ w : World, (Instr.index 101 (.agg #[.int .i64 x, .int .i64 y, .int .i64 z]) (.int .i64 1)).run Tryz.prog w = .ok (.int .i64 y) w := fun _ => by kernel_rfl
  have i2 : ∀ w : World, (Instr.index 101 (.agg #[.int .i64 x, .int .i64 y, .int .i64 z]) (.int .i64 2)).run Tryz.prog w = .ok (.int .i64 z) w := fun _ => by kernel_rfl
  simp only [arr3]
  go_enter Tryz.func57, Tryz.ntmps57
  go_wp2
  refine wp_loop_rounds 4 ?_
  rw [rounds_succ]
  go_wp2
  rw [rounds_succ]
  go_wp2
  rw [rounds_succ]
  go_wp2
  rw [rounds_succ]
  go_wp2
  go_ret
  exact ⟨rfl, rfl⟩

end Go.Proofs.YtggnnbdjihihiaaGreat

namespace Go.Proofs.YtggnnbdjihihiaaGreat
open Go.RowKit

theorem listOwn (x y z : Int) (w : World) (hw : ∀ a ∈ [x, y, z], (Lit.int .i64 a).wf = true) :
    Calls Tryz.prog 57 #[arr3 x y z] w fun e w' => ∃ g, e = .returned (.slice (some ⟨g, 0, none⟩) 3 3) ∧ (Lay.sl Lay.int).OwnIn w' [.slice (some ⟨g, 0, none⟩) 3 3] [x, y, z] w.heap.size w'.heap.size ∧ Below w.heap.size w w' := by
  refine (listOf3 x y z w).mono ?_
  rintro e w' ⟨rfl, rfl⟩
  refine ⟨w.heap.size + 1, rfl, ?_, ((Below.refl _ _).alloc (Nat.le_refl _) _).alloc (by simp) _⟩
  refine Lay.ownInts (zs := [x, y, z]) (base := w.heap.size) (T := 2) hw (by simp) ?_
  exact own_new3 (W := w.alloc _) (by simp) (by simp)

end Go.Proofs.YtggnnbdjihihiaaGreat

namespace Go.Proofs.YtggnnbdjihihiaaGreat
open Go.RowKit Go.Maps

theorem grown_of_ext {r : Option Nat} {w w' : World} (e : Ext (fun q => r = some q) w w') : w.grownBy w' r :=
  ⟨e.os, e.tape, e.output, e.size, fun i hi hn => e.block i hi fun h => hn h.symm⟩
theorem own_snoc {w w' : World} {base : Nat} {bls : List (List Nat)} {bl : List Nat} (hn : bls.flatten.Nodup) (hs : ∀ b ∈ bls.flatten, base ≤ b ∧ ∀ o, w.frozen? ⟨b, o, none⟩ = false) (hlt : ∀ b ∈ bls.flatten, b < w.heap.size)
    (hn2 : bl.Nodup) (hs2 : ∀ b ∈ bl, w.heap.size ≤ b ∧ ∀ o, w'.frozen? ⟨b, o, none⟩ = false) (hb : base ≤ w.heap.size) (hk : ∀ b ∈ bls.flatten, w'.heap[b]? = w.heap[b]?) :
    (bls ++ [bl]).flatten.Nodup ∧ ∀ b ∈ (bls ++ [bl]).flatten, base ≤ b ∧ ∀ o, w'.frozen? ⟨b, o, none⟩ = false := by
  refine ⟨?_, ?_⟩
  · rw [List.flatten_append, List.nodup_append]
    refine ⟨hn, by simpa using hn2, fun a ha c hc e => ?_⟩
    have := hlt a ha
    have := (hs2 c (by simpa using hc)).1
    omega
  · intro b hm
    rw [List.flatten_append] at hm
    rcases List.mem_append.1 hm with hm | hm
    · exact ⟨(hs b hm).1, fun o => (frozen_of_heap (hk b hm) o).trans ((hs b hm).2 o)⟩
    · have h2 := hs2 b (by simpa using hm)
      exact ⟨by omega, h2.2⟩

set_option maxRecDepth 100000 in
set_option maxHeartbeats 4000000 in
/-- items of the program. -/
theorem itemsC (b n : Nat) (xs : List DItem) (w : World) (hT : TabAt w b n xs) (hR : Right xs) :
    Calls Tryz.prog 52 #[.map (some b)] w fun e w' => ∃ v, e = .returned v ∧ (Lay.sl Lay.tItem).OwnIn w' [v] xs w.heap.size w'.heap.size ∧ Below w.heap.size w w' := by
  obtain ⟨hlen, hall, hris⟩ := tableFault_zero hR
  have hbw := hT.lt
  have hown : w.ownsMap Tryz.prog 2 vecR b n (mapD xs) := hT
  obtain ⟨i0, hi, hz0, hz1, hz2⟩ := info_parts infoAppItem
  have HT := hide hT
  have HA := hide hall
  have HI := hide hris
  have hsz : Maps.size (mapD xs) = xs.length := size_mapD xs
  clear hT hall hris hR
  go_enter Tryz.func52, Tryz.ntmps52
  go_wp2_with (first
    | (at_len; refine wpList_len_own _ rfl _ 94 rfl 2 101 Tryz.underlying94 vecR b n (mapD xs) rfl hown ?_; rw [hsz])
    | (at_make; refine wpList_make_own _ rfl _ _ 35 rfl w.heap.size 139 i0 _ 2 Tryz.underlying35 hi hz0 hz1 .i64 .i64 _ xs.length rfl rfl rfl (by rw [hz2]; omega) (by unfold maxLen; omega) (Nat.le_refl _) ?_))
  clear hown hsz
  intro w1 hown1 hg1
  have hB1 : Below w.heap.size w w1 := (Below.refl _ _).grown hg1 (Nat.le_refl _) (by simp)
  have hz1' : w.heap.size < w1.heap.size := (hown1.lt w.heap.size rfl).2
  have hT1 := (unhide HT).later hB1
  have LS := sortedKeys b n xs w1 hT1 (by omega)
  have hB2 : Below w1.heap.size w1 (w1.alloc (.cells #[.map (some b)] 94)) := (Below.refl _ _).alloc (Nat.le_refl _) _
  have HT2 := hide (hT1.later hB2)
  have HG2 := hide ((Grow.nil (A := Lay.tItem) hown1).later hB2)
  have HB2 := hide (hB1.trans (hB2.mono hB1.size))
  have HLS := hide LS
  clear hown1 hg1 hB1 hT1 hB2 LS HT hi hz0 hz1 hz2
  go_wp2_with fail
  refine (mapKeys (some b) w1).mono ?_
  rintro e w2 ⟨rfl, rfl⟩
  go_wp2_with fail
  refine (unhide HLS).mono ?_
  generalize w1.alloc (.cells #[.map (some b)] 94) = W2 at *
  rintro e w3 ⟨sv, ss, rfl, hS, hrow, hb⟩
  rw [intKeys_mapD] at hS
  have hsl : ss.length = xs.length := by rw [hS.length_eq, List.length_map]
  rw [sort_ids (unhide HI) hS, encZ_eq, hsl] at hrow
  have hT3 := (unhide HT2).later hb
  have hG3 := (unhide HG2).later hb
  have hB3 := (unhide HB2).trans (hb.mono (unhide HB2).size)
  have hov : w.heap.size < W2.heap.size := by have := ((unhide HG2).own.lt w.heap.size rfl).2; omega
  clear hS HLS HT2 HG2 HB2 hb hsl ss
  by_cases hp : 0 < xs.length
  · obtain ⟨sg, cap, rfl, hsg, hsgl⟩ : ∃ sg cap, sv = .slice (some ⟨sg, 0, none⟩) xs.length cap ∧ W2.heap.size ≤ sg ∧ sg < w3.heap.size := by
      rcases hrow.2 with ⟨-, h0⟩ | ⟨g, cap, cur, rfl, hg, hh, -⟩
      · omega
      · exact ⟨g, cap, rfl, hg, lt_of_block hh⟩
    have HT3 := hide hT3
    have HG3 := hide hG3
    have HB3 := hide hB3
    have HROW := hide hrow
    clear hT3 hG3 hB3 hrow
    have hbig : xs.length ≤ 30 := hlen
    go_wp2_with fail
    go_loopw [3, 13] (fun v i wr => ∃ (k : Nat) (rows : List (List Value)) (bls : List (List Nat)), k ≤ xs.length ∧ i = .int .i64 k ∧ Grow Lay.tItem wr w.heap.size 139 v rows (xs.take k) bls ∧
        (bls.flatten.Nodup ∧ ∀ b ∈ bls.flatten, w.heap.size ≤ b ∧ ∀ o, wr.frozen? ⟨b, o, none⟩ = false) ∧ wr.ownsRow W2.heap.size 2 1 (.slice (some ⟨sg, 0, none⟩) xs.length cap) xs.length ((xs.map (·.id)).map (Value.int .i64)) ∧ v.ownBlock ≠ some sg ∧ TabAt wr b n xs ∧ Below w.heap.size w wr) (fun _ i _ => xs.length - (intOf i).toNat)
    case atStart =>
      exact ⟨0, [], [], Nat.zero_le _, rfl, unhide HG3, ⟨by simp, by simp⟩, unhide HROW, fun e => by simp [Value.ownBlock] at e; omega, unhide HT3, unhide HB3⟩
    case round =>
      obtain ⟨k, rows, bls, hk, rfl, hG, ⟨hnd, hsf⟩, hrow, hne, hT, hB⟩ := hrel
      clear HT3 HG3 HB3 HROW
      by_cases hlt : k < xs.length
      · have hc : wr.cell? ⟨sg, k, none⟩ = some (.int .i64 xs[k].id) := by
          rw [hrow.cellAt k (by omega)]
          simp [hlt]
        obtain ⟨hid, hvf⟩ := unhide HA xs[k] (List.getElem_mem hlt)
        obtain ⟨p, q, r, hv3, -, hrun⟩ := hT.look (unhide HI) (id_wf hid) (List.getElem_mem hlt) rfl
        have HTK : Hid (xs.take (k + 1) = xs.take k ++ [xs[k]]) := List.take_succ_eq_append_getElem hlt
        have HL : Hid ((xs.take k).length = k) := by show (xs.take k).length = k; rw [List.length_take]; omega
        generalize hx : xs[k] = x at *
        clear hx
        rw [hv3] at hvf
        obtain ⟨⟨b1, b2⟩, ⟨b3, b4⟩, b5, b6⟩ := fault3 hvf
        have HWF : Hid (∀ z ∈ [p, q, r], (Lit.int .i64 z).wf = true) := by
          show ∀ z ∈ [p, q, r], (Lit.int .i64 z).wf = true
          intro z hz
          simp only [List.mem_cons, List.not_mem_nil, or_false] at hz
          rcases hz with rfl | rfl | rfl <;> exact wf_of_bd (by omega)
        have LL := listOwn p q r wr (unhide HWF)
        simp only [arr3] at hrun LL
        have HLL := hide LL
        have hwi := id_wf hid
        have HWI := hide hwi
        have HV3 := hide hv3
        have HG := hide hG
        have HND := hide hnd
        have HSF := hide hsf
        have HROW := hide hrow
        have HNE := hide hne
        have HT := hide hT
        have HB := hide hB
        clear hG hnd hsf hrow hne hT hB hid hvf b1 b2 b3 b4 b5 b6 LL hwi hv3
        go_wp2_with fail
        refine (unhide HLL).mono ?_
        rintro e w4 ⟨g2, rfl, hO, hb4⟩
        obtain ⟨bl2, ⟨hl2, hn2, hf2⟩, hr2⟩ := hO
        have hG4 := (unhide HG).later hb4
        have hz4 := hb4.size
        have hB4 := (unhide HB).trans (hb4.mono (unhide HB).size)
        have hlies : Lay.tItem.lies w4 [.int .i64 x.id, .slice (some ⟨g2, 0, none⟩) 3 3] x bl2 := by
          refine lies_Item.2 ⟨some ⟨g2, 0, none⟩, 3, bl2, by rw [unhide HV3]; rfl, rfl, unhide HWI, ?_⟩
          rw [unhide HV3]; exact hl2
        have hoff : ∀ c ∈ bl2, u3.ownBlock ≠ some c := fun c hc e => by have h1 := hr2 c hc; have h2 := ((unhide HG).own.lt c e).2; omega
        have HSN := hide (own_snoc (w' := w4) (unhide HND) (unhide HSF) (unhide HG).sub_lt hn2 (fun c hc => ⟨(hr2 c hc).1, hf2 c hc⟩) (unhide HB).size (fun c hc => hb4.block c ((unhide HG).sub_lt c hc)))
        have HROW4 := hide (own_below (unhide HROW) hb4)
        have HT4 := hide ((unhide HT).later hb4)
        have hkl := unhide HL
        have HLO := hide hoff
        have HLT : Hid (∀ c ∈ (bls ++ [bl2]).flatten, u3.ownBlock ≠ some c) := by
          intro c hc
          rw [List.flatten_append] at hc
          rcases List.mem_append.1 hc with hc | hc
          · exact (unhide HG).off c hc
          · exact unhide HLO c (by simpa using hc)
        have HLS : Hid (∀ c ∈ (bls ++ [bl2]).flatten, c < w4.heap.size) := by
          intro c hc
          rw [List.flatten_append] at hc
          rcases List.mem_append.1 hc with hc | hc
          · have := (unhide HG).sub_lt c hc; omega
          · have := (hr2 c (by simpa using hc)).2; omega
        have HB4 := hide hB4
        have HZ : Hid (w.heap.size ≤ w4.heap.size) := hB4.size
        have HSG : Hid (sg < w4.heap.size) := by show sg < w4.heap.size; have := (unhide HROW).lt sg rfl; omega
        clear HLL hb4 hl2 hn2 hf2 hr2 hB4 HND HSF HROW HT HB HWF HWI HV3 hrun hc
        go_wp2_with (at_builtin; refine wpList_append_Item hG4 hlies hoff rfl _ _ rfl rfl rfl (by omega) (unhide HZ) ?_)
        rintro g5 cp5 w5 hG5 hb5 hE5 hl5 hz5 hor
        clear hG4 hlies hoff hkl
        have HG5 := hide hG5
        have HB5 := hide ((unhide HB4).trans hb5)
        have HT5 := hide ((unhide HT4).ext hE5 (fun e => by have := ((unhide HG).own.lt b e).1; omega))
        have HROW5 := hide ((unhide HROW4).kept (grown_of_ext hE5) (Or.inr (fun e => unhide HNE e.symm)))
        have HNE5 : Hid (some g5 ≠ some sg) := by
          intro e
          have e1 : g5 = sg := by simpa using e
          rcases hor with h | h
          · exact unhide HNE (by rw [h, e1])
          · have := unhide HSG; omega
        have HSN5 : Hid ((bls ++ [bl2]).flatten.Nodup ∧ ∀ c ∈ (bls ++ [bl2]).flatten, w.heap.size ≤ c ∧ ∀ o, w5.frozen? ⟨c, o, none⟩ = false) := by
          obtain ⟨s1, s2⟩ := unhide HSN
          exact ⟨s1, fun c hc => ⟨(s2 c hc).1, fun o => (frozen_of_heap (hE5.block c (unhide HLS c hc) (unhide HLT c hc)) o).trans ((s2 c hc).2 o)⟩⟩
        clear hG5 hb5 hE5 hor HB4 HT4 HROW4 HSN HG HNE HLT HLS HLO
        go_wp2_with fail
        go_roundw
        case rel =>
          have hg := unhide HG5
          rw [← unhide HTK] at hg
          exact ⟨k + 1, _, _, by omega, by go_num, hg, unhide HSN5, unhide HROW5, unhide HNE5, unhide HT5, unhide HB5⟩
        case measure => simp [intOf]; omega
      · obtain rfl : k = xs.length := by omega
        rw [List.take_length] at hG
        have HO := hide (hG.toOwn (by omega) hnd hsf)
        have HB := hide hB
        clear hG hB hnd hsf hrow hne hT
        go_wp2_with fail
        go_ret
        exact ⟨_, rfl, unhide HO, unhide HB⟩
  · obtain rfl : xs = [] := List.eq_nil_of_length_eq_zero (by omega)
    have HO := hide (hG3.toOwn (by simp) (by simp) (by simp))
    have HB := hide hB3
    have hsv : ∃ ao cap, sv = .slice ao 0 cap := by
      rcases hrow.2 with ⟨rfl, -⟩ | ⟨g, cap, cur, rfl, -⟩
      · exact ⟨none, 0, rfl⟩
      · exact ⟨_, cap, rfl⟩
    obtain ⟨ao, cap, rfl⟩ := hsv
    clear hG3 hB3 hT3 hrow hp
    go_wp2_with fail
    refine wp_loop_rounds 1 ?_
    rw [rounds_succ]
    go_wp2_with fail
    go_ret
    exact ⟨_, rfl, unhide HO, unhide HB⟩

end Go.Proofs.YtggnnbdjihihiaaGreat

namespace Go.Proofs.YtggnnbdjihihiaaGreat
open Go.RowKit

set_option maxRecDepth 10000 in
set_option maxHeartbeats 1000000 in
theorem implItemsIvf (cs : List Value) (x : DIvf) (w : World) (h : Lay.tIvf.Reads w cs x) :
    Calls Tryz.prog 11 #[.agg cs.toArray] w fun e w' => ∃ cs', e = .returned (.agg cs'.toArray) ∧ Lay.tTableResult.OwnIn w' cs' (itemsIvfR x) w.heap.size w'.heap.size ∧ Below w.heap.size w w' := by
  obtain ⟨ac, dc, al, dl, rfl, R0, R1⟩ := open_Ivf h
  have nb1 : Below w.heap.size w (w.alloc (.cells #[.slice ac x.centers.length dc, .slice al x.lists.length dl] 27)) := (Below.refl _ _).alloc (Nat.le_refl _) _
  have nb : Below w.heap.size w ((w.alloc (.cells #[.slice ac x.centers.length dc, .slice al x.lists.length dl] 27)).alloc (.cells #[.int .i64 0, .slice none 0 0] 37)) := nb1.alloc (by simp) _
  have bX : Box w.heap.size #[.slice ac x.centers.length dc, .slice al x.lists.length dl] 27 ((w.alloc (.cells #[.slice ac x.centers.length dc, .slice al x.lists.length dl] 27)).alloc (.cells #[.int .i64 0, .slice none 0 0] 37)) w.heap.size := (newBox (Nat.le_refl _)).grow _
  have bR : Box w.heap.size #[.int .i64 0, .slice none 0 0] 37 ((w.alloc (.cells #[.slice ac x.centers.length dc, .slice al x.lists.length dl] 27)).alloc (.cells #[.int .i64 0, .slice none 0 0] 37)) (w.heap.size + 1) := newBoxAt (by omega) (by simp)
  have L := hide (implTIvf x ac dc al dl _ (R0.later nb) (R1.later nb))
  have c0 := bX.at 0 _ rfl
  have c1 := bX.at 1 _ rfl
  clear h R0 R1 nb1
  go_enter Tryz.func11, Tryz.ntmps11
  go_wp2_with fail
  generalize (w.alloc (.cells #[.slice ac x.centers.length dc, .slice al x.lists.length dl] 27)).alloc (.cells #[.int .i64 0, .slice none 0 0] 37) = W0 at *
  refine (unhide L).mono ?_
  rintro e w1 ⟨⟨mv, rfl, m1, m2⟩, hb⟩
  have hW0 := bR.lt
  replace bR := bR.keep hb
  replace nb := nb.trans (hb.mono nb.size)
  clear hb L c0 c1 bX
  by_cases hf : ivfFault x = 0
  · obtain ⟨b, rfl, hbb, hT⟩ := m2 hf
    have L := hide (itemsC b 200 (allIs x.lists) w1 hT (all_right hf))
    have HG : Hid (itemsIvfR x = ⟨0, allIs x.lists⟩) := if_pos hf
    rw [hf]
    have HR := hide bR
    have HB := hide nb
    clear m1 m2 hf hT bR nb
    go_wp2_with fail
    refine (unhide L).mono ?_
    rintro e w3 ⟨v9, rfl, hO, hb⟩
    obtain ⟨ao9, cp9, rfl⟩ := open_sl hO.reads
    have bR := (unhide HR).keep hb
    have z0 : w3.cell? ⟨w.heap.size + 1, 0, none⟩ = some (.int .i64 0) := bR.at 0 _ rfl
    have z1 : w3.cell? ⟨w.heap.size + 1, 1, none⟩ = some (.slice none 0 0) := bR.at 1 _ rfl
    have f0 := bR.soft 0
    have f1 := bR.soft 1
    have l0 := bR.lt
    have HB9 := hide ((unhide HB).trans (hb.mono (unhide HB).size))
    have HO9 := hide (hO.mono (lo' := w.heap.size + 2) (by have := (unhide HR).lt; omega) (Nat.le_refl _))
    clear hO hb bR L
    go_wp2_with fail
    refine bodyPost_ret (v := .agg #[.int .i64 0, .slice ao9 (allIs x.lists).length cp9]) (by simp [results, Tryz.results11, go_sem, z0, z1]) rfl ?_
    rw [unhide HG]
    have hE : Ext (fun c => c = w.heap.size + 1) w3 ((w3.setCell ⟨w.heap.size + 1, 0, none⟩ (.int .i64 0)).setCell ⟨w.heap.size + 1, 1, none⟩ (.slice ao9 (allIs x.lists).length cp9)) := ((Ext.refl (fun c => c = w.heap.size + 1) _).setCell ⟨w.heap.size + 1, 0, none⟩ _ rfl).setCell ⟨w.heap.size + 1, 1, none⟩ _ rfl
    refine ⟨[.int .i64 0, .slice ao9 (allIs x.lists).length cp9], rfl, own_items (by decide) ?_, ((unhide HB9).setCell (by simp) _).setCell (by simp) _⟩
    exact ((unhide HO9).ext hE (fun c h1 _ h3 => by omega)).mono (by omega) (by simp)
  · obtain rfl := m1 hf
    have hd : (ivfFault x != 0) = true := by simpa using hf
    have HG : Hid (itemsIvfR x = ⟨ivfFault x, []⟩) := if_neg hf
    have z0 : w1.cell? ⟨w.heap.size + 1, 0, none⟩ = some (.int .i64 0) := bR.at 0 _ rfl
    have z1 : w1.cell? ⟨w.heap.size + 1, 1, none⟩ = some (.slice none 0 0) := bR.at 1 _ rfl
    have f0 := bR.soft 0
    have f1 := bR.soft 1
    have l0 := bR.lt
    have HB := hide nb
    clear m1 m2 bR nb hf
    go_wp2_with fail
    refine bodyPost_ret (v := .agg #[.int .i64 (ivfFault x), .slice none 0 0]) (by simp [results, Tryz.results11, go_sem, z0, z1]) rfl ?_
    rw [unhide HG]
    exact ⟨[.int .i64 (ivfFault x), .slice none 0 0], rfl, own_codeItems (ivfFault_wf x), ((unhide HB).setCell (by simp) _).setCell (by simp) _⟩

end Go.Proofs.YtggnnbdjihihiaaGreat

namespace Go.Proofs.YtggnnbdjihihiaaGreat
open Go.RowKit

set_option maxRecDepth 10000 in
set_option maxHeartbeats 1000000 in
theorem implSearch (v : Value) (xs : List DItem) (vq : Value) (q : List Int) (k : Int) (w : World) (h : (Lay.sl Lay.tItem).Reads w [v] xs) (hq : (Lay.sl Lay.int).Reads w [vq] q) :
    Calls Tryz.prog 12 #[v, vq, .int .i64 k] w fun e w' => ∃ cs, e = .returned (.agg cs.toArray) ∧ Lay.tHitsResult.OwnIn w' cs (searchR xs q k) w.heap.size w'.heap.size ∧ Below w.heap.size w w' := by
  have HB0 : Below w.heap.size w (w.alloc (.cells #[.int .i64 0, .slice none 0 0] 33)) := (Below.refl _ _).alloc (Nat.le_refl _) _
  have bR : Box w.heap.size #[.int .i64 0, .slice none 0 0] 33 (w.alloc (.cells #[.int .i64 0, .slice none 0 0] 33)) w.heap.size := newBox (Nat.le_refl _)
  have h0 := h.later HB0
  have HQ := hide (Lay.ints_reads (hq.later HB0))
  obtain ⟨ao, cap, rfl⟩ := open_sl h
  obtain ⟨ao2, cap2, rfl⟩ := open_sl hq
  clear h hq
  go_enter Tryz.func12, Tryz.ntmps12
  go_wp2_with fail
  generalize w.alloc (.cells #[.int .i64 0, .slice none 0 0] 33) = W0 at *
  refine (implTab _ xs W0 h0).mono ?_
  rintro e w1 ⟨rfl, hb⟩
  have H := hide (h0.later hb)
  replace HQ := hide ((unhide HQ).later hb)
  replace bR := bR.keep hb
  replace HB0 := HB0.trans (hb.mono HB0.size)
  have z0 : w1.cell? ⟨w.heap.size, 0, none⟩ = some (.int .i64 0) := bR.at 0 _ rfl
  have z1 : w1.cell? ⟨w.heap.size, 1, none⟩ = some (.slice none 0 0) := bR.at 1 _ rfl
  have f0 := bR.soft 0
  have f1 := bR.soft 1
  have l0 := bR.lt
  have HB := hide HB0
  have HR := hide bR
  clear hb HB0 bR h0
  by_cases hf : tableFault xs = 0
  · rw [hf]
    go_wp2_with fail
    refine (implFault _ q _ (unhide HQ)).mono ?_
    rintro e w1 ⟨rfl, rfl⟩
    by_cases hfq : vecFault q = 0
    · rw [hfq]
      have HF := hide hf
      have HFQ := hide hfq
      clear hf hfq
      go_wp2_with fail
      refine (implWanted k _).mono ?_
      rintro e w1 ⟨rfl, rfl⟩
      rw [show (decide (0 ≤ k) && decide (k ≤ 20)) = kB k from rfl]
      cases hk : kB k with
      | false =>
        have HG : Hid (searchR xs q k = ⟨3, []⟩) := by
          show searchR xs q k = _
          rw [searchR, if_pos (unhide HF), if_pos (unhide HFQ), hk, if_neg (by simp)]
        clear hk
        go_wp2_with fail
        refine bodyPost_ret (v := .agg #[.int .i64 3, .slice none 0 0]) (by simp [results, Tryz.results12, go_sem, z0, z1]) rfl ?_
        rw [unhide HG]
        exact ⟨[.int .i64 3, .slice none 0 0], rfl, own_codeHits (by decide), ((unhide HB).setCell (by simp) _).setCell (by simp) _⟩
      | true =>
        have HG : Hid (searchR xs q k = ⟨0, (best k.toNat ((hitsL xs q).map pairH)).map dhit⟩) := by
          show searchR xs q k = _
          rw [searchR, if_pos (unhide HF), if_pos (unhide HFQ), hk, if_pos rfl]
        have hkb : 0 ≤ k ∧ k ≤ 20 := by simpa [kB] using hk
        have HBC := hide (best_code (unhide HF) (unhide HFQ) hk)
        have HHR := hide (hits_right (unhide HF) (unhide HFQ))
        have HL := hide (hitsOfC _ xs _ q w1 (unhide H) (unhide HQ) (unhide HF) (unhide HFQ))
        clear hk HQ H
        go_wp2_with fail
        clear z0 z1 f0 f1 l0
        refine (unhide HL).mono ?_
        rintro e w2 ⟨v2, rfl, ho, hb⟩
        have hwf : ∀ p ∈ (hitsL xs q).map pairH, Wf2 p := fun p hp => oneB_wf ((unhide HHR).2 p hp)
        have hI := isHits_row hwf ho
        have bR := (unhide HR).keep hb
        have HB2 := hide ((unhide HB).trans (hb.mono (unhide HB).size))
        have HR2 := hide bR
        have HWF := hide hwf
        have hlen := (unhide HHR).1
        have L := implBest_all _ _ k w2 hI
        rw [(unhide HBC).1, (unhide HBC).2] at L
        have HL2 := hide L
        clear L hI ho hb bR HR HB HL hwf HBC
        go_wp2_with fail
        refine (unhide HL2).mono ?_
        rintro e w3 ⟨r3, rfl, ho3, hb3⟩
        have hO := own_hits ho3 (best_wf (unhide HWF)) (by have := best_len k.toNat ((hitsL xs q).map pairH); omega)
        obtain ⟨ao9, cp9, rfl⟩ := open_sl hO.reads
        simp only [intsRes]
        have bR := (unhide HR2).keep hb3
        have z0 : w3.cell? ⟨w.heap.size, 0, none⟩ = some (.int .i64 0) := bR.at 0 _ rfl
        have z1 : w3.cell? ⟨w.heap.size, 1, none⟩ = some (.slice none 0 0) := bR.at 1 _ rfl
        have f0 := bR.soft 0
        have f1 := bR.soft 1
        have l0 := bR.lt
        have HB9 := hide ((unhide HB2).trans (hb3.mono (unhide HB2).size))
        have HO9 := hide (hO.mono (lo' := w.heap.size + 1) (by have := (unhide HR2).lt; omega) (Nat.le_refl _))
        clear hO hb3 bR ho3
        generalize ((best k.toNat ((hitsL xs q).map pairH)).map dhit).length = n9 at *
        go_wp2_with fail
        refine bodyPost_ret (v := .agg #[.int .i64 0, .slice ao9 n9 cp9]) (by simp [results, Tryz.results12, go_sem, z0, z1]) rfl ?_
        rw [unhide HG]
        have hE : Ext (fun c => c = w.heap.size) w3 ((w3.setCell ⟨w.heap.size, 0, none⟩ (.int .i64 0)).setCell ⟨w.heap.size, 1, none⟩ (.slice ao9 n9 cp9)) := ((Ext.refl (fun c => c = w.heap.size) _).setCell ⟨w.heap.size, 0, none⟩ _ rfl).setCell ⟨w.heap.size, 1, none⟩ _ rfl
        exact ⟨[.int .i64 0, .slice ao9 n9 cp9], rfl, own_hitsR (by decide) (((unhide HO9).ext hE (fun c h1 _ h3 => by omega)).mono (by omega) (by simp)), ((unhide HB9).setCell (by simp) _).setCell (by simp) _⟩
    · have HG : Hid (searchR xs q k = ⟨vecFault q, []⟩) := by
        show searchR xs q k = _
        rw [searchR, if_pos hf, if_neg hfq]
      have hd : (vecFault q != 0) = true := by simpa using hfq
      have HC : Hid ((Lit.int .i64 (vecFault q)).wf = true) := by
        have hv : 0 ≤ vecFault q ∧ vecFault q ≤ 3 := by unfold vecFault; split <;> (try split) <;> decide
        exact wf_of_bd (by omega)
      clear hf hfq HQ H
      go_wp2_with fail
      refine bodyPost_ret (v := .agg #[.int .i64 (vecFault q), .slice none 0 0]) (by simp [results, Tryz.results12, go_sem, z0, z1]) rfl ?_
      rw [unhide HG]
      exact ⟨[.int .i64 (vecFault q), .slice none 0 0], rfl, own_codeHits (unhide HC), ((unhide HB).setCell (by simp) _).setCell (by simp) _⟩
  · have HG : Hid (searchR xs q k = ⟨tableFault xs, []⟩) := by
      show searchR xs q k = _
      rw [searchR, if_neg hf]
    have hd : (tableFault xs != 0) = true := by simpa using hf
    clear hf HQ H
    go_wp2_with fail
    refine bodyPost_ret (v := .agg #[.int .i64 (tableFault xs), .slice none 0 0]) (by simp [results, Tryz.results12, go_sem, z0, z1]) rfl ?_
    rw [unhide HG]
    exact ⟨[.int .i64 (tableFault xs), .slice none 0 0], rfl, own_codeHits (code_wf xs), ((unhide HB).setCell (by simp) _).setCell (by simp) _⟩

end Go.Proofs.YtggnnbdjihihiaaGreat

namespace Go.Proofs.YtggnnbdjihihiaaGreat
open Go.RowKit

set_option maxRecDepth 10000 in
set_option maxHeartbeats 1000000 in
theorem implGet (v : Value) (xs : List DItem) (id : Int) (w : World) (h : (Lay.sl Lay.tItem).Reads w [v] xs) (hw : (Lit.int .i64 id).wf = true) :
    Calls Tryz.prog 13 #[v, .int .i64 id] w fun e w' => ∃ cs, e = .returned (.agg cs.toArray) ∧ Lay.tIntsResult.OwnIn w' cs (getI xs id) w.heap.size w'.heap.size ∧ Below w.heap.size w w' := by
  have HB0 : Below w.heap.size w (w.alloc (.cells #[.int .i64 0, .slice none 0 0] 41)) := (Below.refl _ _).alloc (Nat.le_refl _) _
  have bR : Box w.heap.size #[.int .i64 0, .slice none 0 0] 41 (w.alloc (.cells #[.int .i64 0, .slice none 0 0] 41)) w.heap.size := newBox (Nat.le_refl _)
  have H := hide (h.later HB0)
  obtain ⟨ao, cap, rfl⟩ := open_sl h
  clear h
  go_enter Tryz.func13, Tryz.ntmps13
  go_wp2_with fail
  generalize w.alloc (.cells #[.int .i64 0, .slice none 0 0] 41) = W0 at *
  by_cases hf : tableFault xs = 0
  · refine (tableFrom_ok _ xs W0 (unhide H) hf).mono ?_
    rintro e w1 ⟨⟨q, rfl, hq, hT⟩, hb⟩
    replace bR := bR.keep hb
    replace HB0 := HB0.trans (hb.mono HB0.size)
    have hz0 := HB0.size
    obtain ⟨-, -, hris⟩ := tableFault_zero hf
    have z0 : w1.cell? ⟨w.heap.size, 0, none⟩ = some (.int .i64 0) := bR.at 0 _ rfl
    have z1 : w1.cell? ⟨w.heap.size, 1, none⟩ = some (.slice none 0 0) := bR.at 1 _ rfl
    have f0 := bR.soft 0
    have f1 := bR.soft 1
    have l0 := bR.lt
    have HB := hide HB0
    have HT := hide hT
    have HR := hide bR
    clear hb HB0 hT bR H
    go_wp2_with fail
    refine (implId id _).mono ?_
    rintro e w1 ⟨rfl, rfl⟩
    rw [show (decide (1 ≤ id) && decide (id ≤ 999)) = idB id from rfl]
    cases hid : idB id with
    | false =>
      have HG : Hid (getI xs id = ⟨3, []⟩) := by
        show getI xs id = ⟨3, []⟩
        rw [getI, if_pos hf, hid, if_neg (by simp)]
      clear hid hf hris
      go_wp2_with fail
      refine bodyPost_ret (v := .agg #[.int .i64 3, .slice none 0 0]) (by simp [results, Tryz.results13, go_sem, z0, z1]) rfl ?_
      rw [unhide HG]
      exact ⟨[.int .i64 3, .slice none 0 0], rfl, own_codeInts (by decide), ((unhide HB).setCell (by simp) _).setCell (by simp) _⟩
    | true =>
      cases hfd : xs.find? (fun x => x.id == id) with
      | none =>
        have HG : Hid (getI xs id = ⟨4, []⟩) := by
          show getI xs id = ⟨4, []⟩
          rw [getI, if_pos hf, hid, if_pos rfl, hfd]
          rfl
        obtain ⟨p, q2, r, hrun⟩ := (unhide HT).miss hw (find_none hfd)
        simp only [arr3] at hrun
        have HB1 : Hid (∀ u v o, Below w.heap.size w (((w1.setCell ⟨w.heap.size, 0, none⟩ u).setCell ⟨w.heap.size, 1, none⟩ v).alloc o)) := fun u v o => (((unhide HB).setCell (by simp) u).setCell (by simp) v).alloc (by simpa using (unhide HB).size) o
        clear hid hf hris hfd
        have y0 : ∀ u v o, (((w1.setCell ⟨w.heap.size, 0, none⟩ u).setCell ⟨w.heap.size, 1, none⟩ v).alloc o).cell? ⟨w.heap.size, 0, none⟩ = some u := fun u v o => ((((unhide HR).set 0 u).set 1 v).grow o).at 0 u rfl
        have y1 : ∀ u v o, (((w1.setCell ⟨w.heap.size, 0, none⟩ u).setCell ⟨w.heap.size, 1, none⟩ v).alloc o).cell? ⟨w.heap.size, 1, none⟩ = some v := fun u v o => ((((unhide HR).set 0 u).set 1 v).grow o).at 1 v rfl
        go_wp2_with fail
        refine bodyPost_ret (v := .agg #[.int .i64 4, .slice none 0 0]) (by simp [results, Tryz.results13, go_sem, y0, y1]) rfl ?_
        rw [unhide HG]
        exact ⟨[.int .i64 4, .slice none 0 0], rfl, own_codeInts (by decide), unhide HB1 _ _ _⟩
      | some x =>
        obtain ⟨hx, hxi⟩ := find_at hfd
        obtain ⟨p, q2, r, hv, hrun, -⟩ := (unhide HT).look hris hw hx hxi
        have HG : Hid (getI xs id = ⟨0, [p, q2, r]⟩) := by
          show getI xs id = ⟨0, [p, q2, r]⟩
          rw [getI, if_pos hf, hid, if_pos rfl, hfd, ← hv]
          rfl
        have hvf := ((tableFault_zero hf).2.1 x hx).2
        rw [hv] at hvf
        obtain ⟨⟨b1, b2⟩, ⟨b3, b4⟩, b5, b6⟩ := fault3 hvf
        have HWF : Hid (∀ z ∈ [p, q2, r], (Lit.int .i64 z).wf = true) := by
          show ∀ z ∈ [p, q2, r], (Lit.int .i64 z).wf = true
          intro z hz
          simp only [List.mem_cons, List.not_mem_nil, or_false] at hz
          rcases hz with rfl | rfl | rfl <;> exact wf_of_bd (by omega)
        simp only [arr3] at hrun
        clear hid hf hris hfd hvf b1 b2 b3 b4 b5 b6 hx hxi hv
        have nb : Below w1.heap.size w1 (w1.alloc (.cells #[.int .i64 p, .int .i64 q2, .int .i64 r] 101)) := (Below.refl _ _).alloc (Nat.le_refl _) _
        have L := listOwn p q2 r (w1.alloc (.cells #[.int .i64 p, .int .i64 q2, .int .i64 r] 101)) (unhide HWF)
        simp only [arr3] at L
        have HL := hide L
        have HN := hide nb
        clear L nb
        go_wp2_with fail
        clear z0 z1 f0 f1 l0
        refine (unhide HL).mono ?_
        rintro e w2 ⟨g, rfl, hO, hb⟩
        have nb := unhide HN
        have bR := ((unhide HR).keep nb).keep hb
        have z0 : w2.cell? ⟨w.heap.size, 0, none⟩ = some (.int .i64 0) := bR.at 0 _ rfl
        have z1 : w2.cell? ⟨w.heap.size, 1, none⟩ = some (.slice none 0 0) := bR.at 1 _ rfl
        have f0 := bR.soft 0
        have f1 := bR.soft 1
        have l0 := bR.lt
        have HB2 := hide (((unhide HB).trans (nb.mono (unhide HB).size)).trans (hb.mono (by have := (unhide HB).size; simp; omega)))
        have hlo : w1.heap.size ≤ (w1.alloc (.cells #[.int .i64 p, .int .i64 q2, .int .i64 r] 101)).heap.size := nb.size
        have HO := hide (hO.mono (lo' := w.heap.size + 1) (by have := (unhide HR).lt; omega) (Nat.le_refl _))
        clear hO hb nb bR HN HL hlo
        go_wp2_with fail
        refine bodyPost_ret (v := .agg #[.int .i64 0, .slice (some ⟨g, 0, none⟩) 3 3]) (by simp [results, Tryz.results13, go_sem, z0, z1]) rfl ?_
        rw [unhide HG]
        have hE : Ext (fun c => c = w.heap.size) w2 ((w2.setCell ⟨w.heap.size, 0, none⟩ (.int .i64 0)).setCell ⟨w.heap.size, 1, none⟩ (.slice (some ⟨g, 0, none⟩) 3 3)) := ((Ext.refl (fun c => c = w.heap.size) _).setCell ⟨w.heap.size, 0, none⟩ _ rfl).setCell ⟨w.heap.size, 1, none⟩ _ rfl
        refine ⟨[.int .i64 0, .slice (some ⟨g, 0, none⟩) 3 3], rfl, own_ints (by decide) ?_, ((unhide HB2).setCell (by simp) _).setCell (by simp) _⟩
        exact ((unhide HO).ext hE (fun c h1 _ h3 => by omega)).mono (by omega) (by simp)
  · have L := hide (tableFrom_bad _ xs W0 (unhide H) hf)
    have HG : Hid (getI xs id = ⟨tableFault xs, []⟩) := by
      show getI xs id = ⟨tableFault xs, []⟩
      rw [getI, if_neg hf]
    have hd : (tableFault xs != 0) = true := by simpa using hf
    clear H
    refine (unhide L).mono ?_
    rintro e w1 ⟨rfl, hb⟩
    replace bR := bR.keep hb
    have z0 : w1.cell? ⟨w.heap.size, 0, none⟩ = some (.int .i64 0) := bR.at 0 _ rfl
    have z1 : w1.cell? ⟨w.heap.size, 1, none⟩ = some (.slice none 0 0) := bR.at 1 _ rfl
    have f0 := bR.soft 0
    have f1 := bR.soft 1
    have l0 := bR.lt
    have HB := hide (HB0.trans (hb.mono HB0.size))
    clear hb HB0 bR L hf
    go_wp2_with fail
    refine bodyPost_ret (v := .agg #[.int .i64 (tableFault xs), .slice none 0 0]) (by simp [results, Tryz.results13, go_sem, z0, z1]) rfl ?_
    rw [unhide HG]
    exact ⟨[.int .i64 (tableFault xs), .slice none 0 0], rfl, own_codeInts (code_wf xs), ((unhide HB).setCell (by simp) _).setCell (by simp) _⟩

end Go.Proofs.YtggnnbdjihihiaaGreat
