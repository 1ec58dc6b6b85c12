/-
  The program's hitsOf: all items as hits, in new memory; nothing old is written.
  Condition: the items are a right table, the query a right vector (premises).
-/
import Derived.Test.YtkodenmpadehjabChecked
import Derived.Test.YtkodenmpadehjabSearchPlain
import Derived.Test.YtkodenmpadehjabAppHit
import Derived.Deep.RegionHeld3
namespace Go.Proofs.Ytkodenmpadehjab
open Go.RowKit

theorem Ext.drew2 {S : Nat → Prop} {a b : World} (h : Ext S a b) : Ext S a b.drew := ⟨h.os, h.tape, h.output, h.size, h.block⟩

set_option maxRecDepth 100000 in
set_option maxHeartbeats 4000000 in
theorem hitsOf_pos (b off cap : Nat) (xs : List DItem) (a2 : Option Addr) (d2 : Nat) (q : List Int) (w : World) (h : (Lay.sl Lay.tItem).Reads w [.slice (some ⟨b, off, none⟩) xs.length cap] xs) (hq : IsInts w (.slice a2 q.length d2) q) (hbl : b < w.heap.size) (hf : tableFault xs = 0) (hfq : vecFault q = 0) :
    Calls Try.prog 21 #[.slice (some ⟨b, off, none⟩) xs.length cap, .slice a2 q.length d2] w fun e w' => ∃ v, e = .returned v ∧ w'.ownsRow w.heap.size 38 2 v ((hitsL xs q).map pairH).length (cells2 ((hitsL xs q).map pairH)) ∧ Below w.heap.size w w' := by
  obtain ⟨hlen, hall, -⟩ := tableFault_zero hf
  obtain ⟨i0, hi, hz0, hz1, hz2⟩ := info_parts infoAppHit
  have HA := hide hall
  have H := hide h
  have HQ := hide hq
  have HFQ := hide hfq
  clear h hall hf hq hfq
  go_enter Try.func21, Try.ntmps21
  go_wp2_with (at_make; refine wpList_make_own _ rfl _ _ 28 rfl w.heap.size 38 i0 _ 2 Try.underlying28 hi hz0 hz1 .i64 .i64 _ xs.length rfl rfl rfl (by rw [hz2]; omega) (by unfold maxLen; omega) (Nat.le_refl _) ?_)
  intro w1 hown1 hg1
  have hB1 : Below w.heap.size w w1 := (Below.refl _ _).grown hg1 (Nat.le_refl _) (by simp)
  have HG1 := hide (Grow.nil (A := Lay.tHit) hown1)
  have HB1 := hide hB1
  clear hown1 hg1 hB1 hi hz0 hz1 hz2
  go_wp2_with fail
  go_loopw [5, 13] (fun v i wr => ∃ (k : Nat) (rows : List (List Value)) (bls : List (List Nat)), k ≤ xs.length ∧ i = .int .i64 k ∧ Grow Lay.tHit wr w.heap.size 38 v rows (hitsL (xs.take k) q) bls ∧ Below w.heap.size w wr) (fun _ i _ => xs.length - (intOf i).toNat)
  case atStart => exact ⟨0, [], [], Nat.zero_le _, rfl, unhide HG1, unhide HB1⟩
  case round =>
    obtain ⟨k, rows, bls, hk, rfl, hG, hB⟩ := hrel
    clear HG1 HB1
    by_cases hlt : k < xs.length
    · obtain ⟨row, hc, hr⟩ := Lay.row_at (unhide H) hlt
      replace hr := hr.later hB
      obtain ⟨a1, d1, rfl, R1⟩ := open_Item hr
      have c0 : wr.cell? ⟨b, off + k * 2, none⟩ = some (.int .i64 (xs[k]).id) := (hB.cell (p := ⟨b, off + k * 2, none⟩) hbl).trans (hc 0 (by decide))
      have c1 : wr.cell? ⟨b, off + k * 2 + 1, none⟩ = some (.slice a1 (xs[k]).vec.length d1) := (hB.cell (p := ⟨b, off + k * 2 + 1, none⟩) hbl).trans (hc 1 (by decide))
      obtain ⟨hid, hvf⟩ := unhide HA xs[k] (List.getElem_mem hlt)
      have HT : Hid (hitsL (xs.take (k + 1)) q = hitsL (xs.take k) q ++ [hitOf q xs[k]]) := by
        show hitsL (xs.take (k + 1)) q = _
        rw [hitsL, List.take_succ_eq_append_getElem hlt, List.map_append]
        rfl
      have HL : Hid ((hitsL (xs.take k) q).length = k) := by show (hitsL (xs.take k) q).length = k; rw [hitsL, List.length_map, List.length_take]; omega
      clear hc hr
      generalize hx : xs[k] = x at *
      clear hx
      obtain ⟨p1, p2, p3, hv3⟩ := vec3q hvf
      obtain ⟨q1, q2, q3, hq3⟩ := vec3q (unhide HFQ)
      have hbd := score3_bd (unhide HFQ) hvf
      have HWS : Hid ((Lit.int .i64 (score3 q x.vec)).wf = true) := wf_of_bd (by omega)
      have HWI : Hid ((Lit.int .i64 x.id).wf = true) := by
        simp only [idB, Bool.and_eq_true, decide_eq_true_eq] at hid
        exact wf_of_bd (by omega)
      have hbr : b < wr.heap.size := Nat.lt_of_lt_of_le hbl hB.size
      have nb : Below wr.heap.size wr (wr.alloc (.cells #[.int .i64 x.id, .slice a1 x.vec.length d1] 33)) := (Below.refl _ _).alloc (Nat.le_refl _) _
      have bI : Box wr.heap.size #[.int .i64 x.id, .slice a1 x.vec.length d1] 33 (wr.alloc (.cells #[.int .i64 x.id, .slice a1 x.vec.length d1] 33)) wr.heap.size := newBox (Nat.le_refl _)
      have HI := hide ((Lay.ints_reads R1).later nb)
      have HQI := hide (((unhide HQ).later hB).later nb)
      have HS3 : Hid (score3 q x.vec = (q1 - p1) * (q1 - p1) + (q2 - p2) * (q2 - p2) + (q3 - p3) * (q3 - p3)) := by
        show score3 q x.vec = _
        rw [hq3, hv3]
        rfl
      have HV3 := hide hv3
      have HQ3 := hide hq3
      have HVF := hide hvf
      have HOFF : Hid (u5.ownBlock = some wr.heap.size → False) := fun e => by have := (hG.own.lt _ e).2; omega
      have HG := hide (hG.later nb)
      have HB := hide (hB.trans (nb.mono hB.size))
      have HBI := hide bI
      clear R1 hG hB nb bI hid hvf hbd hv3 hq3
      go_wp2_with fail
      clear c0 c1
      have hbI := unhide HBI
      have hhG := unhide HG
      have hI1 := unhide HI
      have hQ1 := unhide HQI
      have hB0 := unhide HB
      clear HBI HG HI HQI HB
      generalize hW0 : wr.alloc (.cells #[.int .i64 x.id, .slice a1 x.vec.length d1] 33) = W0 at *
      clear hW0
      have hfl : ∀ W : World, (Instr.field 35 (.agg #[.int .i64 0, .int .i64 (score3 q x.vec)]) 1).run Try.prog W = .ok (.int .i64 (score3 q x.vec)) W := fun _ => by kernel_rfl
      have hDI : IsInts W0.drew (.slice a1 x.vec.length d1) x.vec := hI1
      have hDQ : IsInts W0.drew (.slice a2 q.length d2) q := hQ1
      have hBx : u5.ownBlock = some wr.heap.size → False := fun e => unhide HOFF e
      have hGD : Grow Lay.tHit W0.drew w.heap.size 38 u5 rows (hitsL (xs.take k) q) bls := hhG.later (below_drawn (Below.refl _ _) 1)
      refine wp_region_noPanic ?_
      refine wp_region_held_drew (S := fun w' => Ext (fun c => u5.ownBlock = some c) W0 w') (by kernel_rfl) (Ext.refl _ _).drew2 (fun hHeld => ?_)
      generalize W0.drew = wD at hHeld hGD hDI hDQ ⊢
      refine wpAnyH_take (i := 0) (oi := { dst := some 17, op := Go.Op.move (Go.Operand.tmp 5), type := 28, pos := "l04_table.go:136", after := #[], guard := none }) (v := ?v0) rfl (by kernel_rfl) (by kernel_rfl) (by kernel_rfl) (fun _ _ _ h => h) (Or.inl ⟨by rfl, ?h0⟩) hHeld ?r0
      case h0 =>
        intro wS hSw
        (try dsimp only at hSw)
        go_simp
        try with_reducible rfl
      case r0 =>
      simp only [Act.put, List.setIfInBounds_toArray, List.set_cons_zero, List.set_cons_succ]
      refine wpAnyH_take (i := 1) (oi := { dst := some 18, op := Go.Op.fieldAddr 33 (Go.Operand.tmp 7) 0, type := 0, pos := "l04_table.go:136", after := #[], guard := none }) (v := ?v1) rfl (by kernel_rfl) (by kernel_rfl) (by kernel_rfl) (fun _ _ _ h => h) (Or.inl ⟨by rfl, ?h1⟩) hHeld ?r1
      case h1 =>
        intro wS hSw
        (try dsimp only at hSw)
        go_simp
        try with_reducible rfl
      case r1 =>
      simp only [Act.put, List.setIfInBounds_toArray, List.set_cons_zero, List.set_cons_succ]
      refine wpAnyH_take (i := 2) (oi := { dst := some 19, op := Go.Op.load 2 (Go.Operand.tmp 18), type := 2, pos := "l04_table.go:136", after := #[{ on := 1, ground := Go.Ground.data }], guard := none }) (v := ?v2) rfl (by kernel_rfl) (by kernel_rfl) (by kernel_rfl) (fun _ _ _ h => h) (Or.inl ⟨by rfl, ?h2⟩) hHeld ?r2
      case h2 =>
        intro wS hSw
        have bx := hbI.ext hSw (fun e => by exact hBx e)
        have y0 := bx.at 0 _ rfl
        have y1 := bx.at 1 _ rfl
        clear bx hSw
        (try dsimp only at hSw)
        go_simp
        try with_reducible rfl
      case r2 =>
      simp only [Act.put, List.setIfInBounds_toArray, List.set_cons_zero, List.set_cons_succ]
      refine wpAnyH_take (i := 3) (oi := { dst := some 20, op := Go.Op.move (Go.Operand.tmp 1), type := 25, pos := "l04_table.go:136", after := #[], guard := none }) (v := ?v3) rfl (by kernel_rfl) (by kernel_rfl) (by kernel_rfl) (fun _ _ _ h => h) (Or.inl ⟨by rfl, ?h3⟩) hHeld ?r3
      case h3 =>
        intro wS hSw
        (try dsimp only at hSw)
        go_simp
        try with_reducible rfl
      case r3 =>
      simp only [Act.put, List.setIfInBounds_toArray, List.set_cons_zero, List.set_cons_succ]
      refine wpAnyH_take (i := 4) (oi := { dst := some 21, op := Go.Op.fieldAddr 33 (Go.Operand.tmp 7) 1, type := 0, pos := "l04_table.go:136", after := #[], guard := none }) (v := ?v4) rfl (by kernel_rfl) (by kernel_rfl) (by kernel_rfl) (fun _ _ _ h => h) (Or.inl ⟨by rfl, ?h4⟩) hHeld ?r4
      case h4 =>
        intro wS hSw
        (try dsimp only at hSw)
        go_simp
        try with_reducible rfl
      case r4 =>
      simp only [Act.put, List.setIfInBounds_toArray, List.set_cons_zero, List.set_cons_succ]
      refine wpAnyH_take (i := 5) (oi := { dst := some 22, op := Go.Op.load 25 (Go.Operand.tmp 21), type := 25, pos := "l04_table.go:136", after := #[{ on := 4, ground := Go.Ground.data }], guard := none }) (v := ?v5) rfl (by kernel_rfl) (by kernel_rfl) (by kernel_rfl) (fun _ _ _ h => h) (Or.inl ⟨by rfl, ?h5⟩) hHeld ?r5
      case h5 =>
        intro wS hSw
        have bx := hbI.ext hSw (fun e => by exact hBx e)
        have y0 := bx.at 0 _ rfl
        have y1 := bx.at 1 _ rfl
        clear bx hSw
        (try dsimp only at hSw)
        go_simp
        try with_reducible rfl
      case r5 =>
      simp only [Act.put, List.setIfInBounds_toArray, List.set_cons_zero, List.set_cons_succ]
      refine wpAnyH_ready (rs := [6]) (by kernel_rfl) (by simp) ?_
      refine AllReadyH.cons (o := { dst := some 23, op := Go.Op.call { callee := Go.Callee.value (Go.Operand.func 8), args := #[Go.Operand.tmp 20, Go.Operand.tmp 22], argTypes := #[25, 25] }, type := 35, pos := "l04_table.go:136", after := #[{ on := 3, ground := Go.Ground.data }, { on := 5, ground := Go.Ground.data }], guard := none }) rfl (fun K hK => ?_) AllReadyH.nil
      go_simp
      go_at_call 8
      have hIa := hDI
      have hQa := hDQ
      have L := implScore_ok (.slice a2 q.length d2) (.slice a1 x.vec.length d1) q1 q2 q3 p1 p2 p3 wD (by rw [← unhide HQ3]; exact hQa) (by rw [← unhide HV3]; exact hIa) (by rw [← unhide HQ3]; exact unhide HFQ) (by rw [← unhide HV3]; exact unhide HVF)
      rw [← unhide HS3] at L
      simp only [intRes] at L
      refine L.mono ?_
      clear L hIa hQa
      rintro e w3 ⟨rfl, hbw⟩
      have hG3 := hGD.later hbw
      have hz3 := hbw.size
      try go_wp2_with fail
      refine hK.out _ _ (hHeld.trans (ext_of_below hbw _)) (fun hHeld => ?_)
      clear hK K
      try simp only [Act.put, List.setIfInBounds_toArray, List.set_cons_zero, List.set_cons_succ]
      refine wpAnyH_take (i := 7) (oi := { dst := some 24, op := Go.Op.field 35 (Go.Operand.tmp 23) 1, type := 2, pos := "l04_table.go:136", after := #[{ on := 6, ground := Go.Ground.data }], guard := none }) (v := ?v7) rfl (by kernel_rfl) (by kernel_rfl) (by kernel_rfl) (fun _ _ _ h => h) (Or.inl ⟨by rfl, ?h7⟩) hHeld ?r7
      case h7 =>
        intro wS hSw
        (try dsimp only at hSw)
        go_simp
        try with_reducible rfl
      case r7 =>
      simp only [Act.put, List.setIfInBounds_toArray, List.set_cons_zero, List.set_cons_succ]
      refine wpAnyH_take (i := 8) (oi := { dst := some 25, op := Go.Op.build 38 #[(0, Go.Operand.tmp 19), (1, Go.Operand.tmp 24)], type := 38, pos := "l04_table.go:136", after := #[{ on := 2, ground := Go.Ground.data }, { on := 7, ground := Go.Ground.data }], guard := none }) (v := ?v8) rfl (by kernel_rfl) (by kernel_rfl) (by kernel_rfl) (fun _ _ _ h => h) (Or.inl ⟨by rfl, ?h8⟩) hHeld ?r8
      case h8 =>
        intro wS hSw
        (try dsimp only at hSw)
        go_simp
        try with_reducible rfl
      case r8 =>
      simp only [Act.put, List.setIfInBounds_toArray, List.set_cons_zero, List.set_cons_succ]
      refine wpAnyH_ready (rs := [9]) (by kernel_rfl) (by simp) ?_
      refine AllReadyH.cons (o := { dst := some 26, op := Go.Op.buildSlice 28 1 #[(0, Go.Operand.tmp 25)], type := 28, pos := "l04_table.go:136", after := #[{ on := 8, ground := Go.Ground.data }], guard := none }) rfl (fun K hK => ?_) AllReadyH.nil
      have hH3 := hHeld
      go_simp
      refine hK.out _ _ (hHeld.trans (ext_of_below ((Below.refl _ _).alloc (Nat.le_refl _) _) _)) (fun hHeld => ?_)
      clear hK K
      try simp only [Act.put, List.setIfInBounds_toArray, List.set_cons_zero, List.set_cons_succ]
      refine wpAnyH_ready (rs := [10]) (by kernel_rfl) (by simp) ?_
      refine AllReadyH.cons (o := { dst := some 27, op := Go.Op.call { callee := Go.Callee.builtin Go.Builtin.append, args := #[Go.Operand.tmp 17, Go.Operand.tmp 26], argTypes := #[28, 28] }, type := 28, pos := "l04_table.go:136", after := #[{ on := 0, ground := Go.Ground.data }, { on := 9, ground := Go.Ground.data }, { on := 6, ground := Go.Ground.chain }], guard := none }) rfl (fun K hK => ?_) AllReadyH.nil
      refine step_append_Hit hG3 (row := [.int .i64 x.id, .int .i64 (score3 q x.vec)]) (x := hitOf q x) (bl := []) (lies_Hit.2 ⟨rfl, rfl, unhide HWI, unhide HWS⟩) (by simp) rfl _ _ rfl rfl rfl (by have := unhide HL; omega) (by have := hH3.size; have := hB0.size; omega) ?_
      rintro g5 cp5 w5 hG5 hb5 hE5 hl5 hz5 -
      refine hK.out _ _ (hH3.trans hE5) (fun hHeld => ?_)
      clear hK K
      try simp only [Act.put, List.setIfInBounds_toArray, List.set_cons_zero, List.set_cons_succ]
      refine wpAnyH_take (i := 11) (oi := { dst := some 5, op := Go.Op.assign (Go.Operand.tmp 27), type := 28, pos := "l04_table.go:136", after := #[{ on := 10, ground := Go.Ground.data }, { on := 10, ground := Go.Ground.chain }, { on := 0, ground := Go.Ground.phase }, { on := 1, ground := Go.Ground.phase }, { on := 2, ground := Go.Ground.phase }, { on := 3, ground := Go.Ground.phase }, { on := 4, ground := Go.Ground.phase }, { on := 5, ground := Go.Ground.phase }, { on := 6, ground := Go.Ground.phase }, { on := 7, ground := Go.Ground.phase }, { on := 8, ground := Go.Ground.phase }, { on := 9, ground := Go.Ground.phase }, { on := 10, ground := Go.Ground.phase }], guard := none }) (v := ?v11) rfl (by kernel_rfl) (by kernel_rfl) (by kernel_rfl) (fun _ _ _ h => h) (Or.inl ⟨by rfl, ?h11⟩) hHeld ?r11
      case h11 =>
        intro wS hSw
        (try dsimp only at hSw)
        go_simp
        try with_reducible rfl
      case r11 =>
      simp only [Act.put, List.setIfInBounds_toArray, List.set_cons_zero, List.set_cons_succ]
      refine wpAnyH_done (by kernel_rfl) ?_ _
      refine NoPanic.normal ?_
      have HG5 := hide hG5
      have HB5 := hide (hB0.trans (hHeld.below hB0.size (fun c hc e => by have := (hhG.own.lt c e).1; omega)))
      clear hHeld hG5 hGD hG3 hhG hI1 hQ1 hB0 hfl
      go_wp2_with fail
      go_roundw
      case rel =>
        have hg := unhide HG5
        rw [← unhide HT] at hg
        exact ⟨k + 1, _, _, by omega, by go_num, hg, unhide HB5⟩
      case measure => simp [intOf]; omega
    · obtain rfl : k = xs.length := by omega
      rw [List.take_length] at hG
      have HG := hide (grow_hits hG).1
      have HB := hide hB
      clear hG hB H
      go_wp2_with fail
      go_ret
      exact ⟨_, rfl, unhide HG, unhide HB⟩

theorem hitsOf_zero (ao : Option Addr) (cap : Nat) (v : Value) (w : World) :
    Calls Try.prog 21 #[.slice ao 0 cap, v] w fun e w' => ∃ v, e = .returned v ∧ w'.ownsRow w.heap.size 38 2 v 0 [] ∧ Below w.heap.size w w' := by
  obtain ⟨i0, hi, hz0, hz1, hz2⟩ := info_parts infoAppHit
  go_enter Try.func21, Try.ntmps21
  go_wp2_with (at_make; refine wpList_make_own _ rfl _ _ 28 rfl w.heap.size 38 i0 _ 2 Try.underlying28 hi hz0 hz1 .i64 .i64 _ 0 rfl rfl rfl (by rw [hz2]; omega) (by unfold maxLen; omega) (Nat.le_refl _) ?_)
  intro w1 hown1 hg1
  have HB1 := hide ((Below.refl w.heap.size w).grown hg1 (Nat.le_refl _) (by simp))
  have HO := hide hown1
  clear hown1 hg1 hi hz0 hz1 hz2
  go_wp2_with fail
  refine wp_loop_rounds 1 ?_
  rw [rounds_succ]
  go_wp2_with fail
  go_ret
  exact ⟨_, rfl, unhide HO, unhide HB1⟩

/-- hitsOf of the program. -/
theorem hitsOfC (v : Value) (xs : List DItem) (vq : Value) (q : List Int) (w : World) (h : (Lay.sl Lay.tItem).Reads w [v] xs) (hq : IsInts w vq q) (hf : tableFault xs = 0) (hfq : vecFault q = 0) :
    Calls Try.prog 21 #[v, vq] w fun e w' => ∃ v, e = .returned v ∧ w'.ownsRow w.heap.size 38 2 v ((hitsL xs q).map pairH).length (cells2 ((hitsL xs q).map pairH)) ∧ Below w.heap.size w w' := by
  obtain ⟨ao, cap, rfl⟩ := open_sl h
  have hvq : ∃ a d, vq = .slice a q.length d := by obtain ⟨a, d, e, -⟩ := hq; exact ⟨a, d, e⟩
  obtain ⟨a2, d2, rfl⟩ := hvq
  by_cases hp : 0 < xs.length
  · obtain ⟨b, off, rfl, hbl⟩ := Lay.sl_addr h hp
    exact hitsOf_pos b off cap xs a2 d2 q w h hq hbl hf hfq
  · obtain rfl : xs = [] := List.eq_nil_of_length_eq_zero (by omega)
    exact hitsOf_zero ao cap _ w

end Go.Proofs.Ytkodenmpadehjab
