/-
  Texts of this proof in one: ImplHitsOf, ImplWanted, ImplHit, HitCopy, HitInsert, ImplKeep, ImplFirst.
  Their conditions stand in their theorems.
-/
import Derived.Test.YtfgadegpdknocaaGreatChecked
import Derived.Test.YtfgadegpdknocaaGreatIs08
import Derived.Test.YtfgadegpdknocaaGreatIs13
import Derived.Deep.RegionHeld3
import Derived.Test.YtfgadegpdknocaaGreatIs01
import Derived.Test.YtfgadegpdknocaaGreatIs07
import Derived.Test.YtfgadegpdknocaaGreatIs05
import Derived.Test.YtfgadegpdknocaaGreatIs10
import Derived.Laws.CopyRow
import Derived.Deep.RegionLaw
import Derived.Lib.Overlaps
import Derived.Lib.AppendZerosOnto

namespace Go.Proofs.YtfgadegpdknocaaGreat
open Go.RowKit

theorem Ext.drew2 {S : Nat → Prop} {a b : World} (h : Ext S a b) : Ext S a b.drew := ⟨h.os, h.tape, h.output, h.size, h.block⟩

set_option maxRecDepth 100000 in
set_option maxHeartbeats 4000000 in
theorem hitsOf_pos (b off cap : Nat) (xs : List DItem) (a2 : Option Addr) (d2 : Nat) (q : List Int) (w : World) (h : (Lay.sl Lay.tItem).Reads w [.slice (some ⟨b, off, none⟩) xs.length cap] xs) (hq : IsInts w (.slice a2 q.length d2) q) (hbl : b < w.heap.size) (hf : tableFault xs = 0) (hfq : vecFault q = 0) :
    Calls Tryz.prog 67 #[.slice (some ⟨b, off, none⟩) xs.length cap, .slice a2 q.length d2] w fun e w' => ∃ v, e = .returned v ∧ w'.ownsRow w.heap.size 66 2 v ((hitsL xs q).map pairH).length (cells2 ((hitsL xs q).map pairH)) ∧ Below w.heap.size w w' := by
  obtain ⟨hlen, hall, -⟩ := tableFault_zero hf
  obtain ⟨i0, hi, hz0, hz1, hz2⟩ := info_parts infoAppHit
  have HA := hide hall
  have H := hide h
  have HQ := hide hq
  have HFQ := hide hfq
  clear h hall hf hq hfq
  go_enter Tryz.func67, Tryz.ntmps67
  go_wp2_with (at_make; refine wpList_make_own _ rfl _ _ 46 rfl w.heap.size 66 i0 _ 2 Tryz.underlying46 hi hz0 hz1 .i64 .i64 _ xs.length rfl rfl rfl (by rw [hz2]; omega) (by unfold maxLen; omega) (Nat.le_refl _) ?_)
  intro w1 hown1 hg1
  have hB1 : Below w.heap.size w w1 := (Below.refl _ _).grown hg1 (Nat.le_refl _) (by simp)
  have HG1 := hide (Grow.nil (A := Lay.tHit) hown1)
  have HB1 := hide hB1
  clear hown1 hg1 hB1 hi hz0 hz1 hz2
  go_wp2_with fail
  go_loopw [5, 13] (fun v i wr => ∃ (k : Nat) (rows : List (List Value)) (bls : List (List Nat)), k ≤ xs.length ∧ i = .int .i64 k ∧ Grow Lay.tHit wr w.heap.size 66 v rows (hitsL (xs.take k) q) bls ∧ Below w.heap.size w wr) (fun _ i _ => xs.length - (intOf i).toNat)
  case atStart => exact ⟨0, [], [], Nat.zero_le _, rfl, unhide HG1, unhide HB1⟩
  case round =>
    obtain ⟨k, rows, bls, hk, rfl, hG, hB⟩ := hrel
    clear HG1 HB1
    by_cases hlt : k < xs.length
    · obtain ⟨row, hc, hr⟩ := Lay.row_at (unhide H) hlt
      replace hr := hr.later hB
      obtain ⟨a1, d1, rfl, R1⟩ := open_Item hr
      have c0 : wr.cell? ⟨b, off + k * 2, none⟩ = some (.int .i64 (xs[k]).id) := (hB.cell (p := ⟨b, off + k * 2, none⟩) hbl).trans (hc 0 (by decide))
      have c1 : wr.cell? ⟨b, off + k * 2 + 1, none⟩ = some (.slice a1 (xs[k]).vec.length d1) := (hB.cell (p := ⟨b, off + k * 2 + 1, none⟩) hbl).trans (hc 1 (by decide))
      obtain ⟨hid, hvf⟩ := unhide HA xs[k] (List.getElem_mem hlt)
      have HT : Hid (hitsL (xs.take (k + 1)) q = hitsL (xs.take k) q ++ [hitOf q xs[k]]) := by
        show hitsL (xs.take (k + 1)) q = _
        rw [hitsL, List.take_succ_eq_append_getElem hlt, List.map_append]
        rfl
      have HL : Hid ((hitsL (xs.take k) q).length = k) := by show (hitsL (xs.take k) q).length = k; rw [hitsL, List.length_map, List.length_take]; omega
      clear hc hr
      generalize hx : xs[k] = x at *
      clear hx
      obtain ⟨p1, p2, p3, hv3⟩ := vec3q hvf
      obtain ⟨q1, q2, q3, hq3⟩ := vec3q (unhide HFQ)
      have hbd := score3_bd (unhide HFQ) hvf
      have HWS : Hid ((Lit.int .i64 (score3 q x.vec)).wf = true) := wf_of_bd (by omega)
      have HWI : Hid ((Lit.int .i64 x.id).wf = true) := by
        simp only [idB, Bool.and_eq_true, decide_eq_true_eq] at hid
        exact wf_of_bd (by omega)
      have hbr : b < wr.heap.size := Nat.lt_of_lt_of_le hbl hB.size
      have nb : Below wr.heap.size wr (wr.alloc (.cells #[.int .i64 x.id, .slice a1 x.vec.length d1] 133)) := (Below.refl _ _).alloc (Nat.le_refl _) _
      have bI : Box wr.heap.size #[.int .i64 x.id, .slice a1 x.vec.length d1] 133 (wr.alloc (.cells #[.int .i64 x.id, .slice a1 x.vec.length d1] 133)) wr.heap.size := newBox (Nat.le_refl _)
      have HI := hide ((Lay.ints_reads R1).later nb)
      have HQI := hide (((unhide HQ).later hB).later nb)
      have HS3 : Hid (score3 q x.vec = (q1 - p1) * (q1 - p1) + (q2 - p2) * (q2 - p2) + (q3 - p3) * (q3 - p3)) := by
        show score3 q x.vec = _
        rw [hq3, hv3]
        rfl
      have HV3 := hide hv3
      have HQ3 := hide hq3
      have HVF := hide hvf
      have HOFF : Hid (u5.ownBlock = some wr.heap.size → False) := fun e => by have := (hG.own.lt _ e).2; omega
      have HG := hide (hG.later nb)
      have HB := hide (hB.trans (nb.mono hB.size))
      have HBI := hide bI
      clear R1 hG hB nb bI hid hvf hbd hv3 hq3
      go_wp2_with fail
      clear c0 c1
      have hbI := unhide HBI
      have hhG := unhide HG
      have hI1 := unhide HI
      have hQ1 := unhide HQI
      have hB0 := unhide HB
      clear HBI HG HI HQI HB
      generalize hW0 : wr.alloc (.cells #[.int .i64 x.id, .slice a1 x.vec.length d1] 133) = W0 at *
      clear hW0
      have hfl : ∀ W : World, (Instr.field 68 (.agg #[.int .i64 0, .int .i64 (score3 q x.vec)]) 1).run Tryz.prog W = .ok (.int .i64 (score3 q x.vec)) W := fun _ => by kernel_rfl
      have hDI : IsInts W0.drew (.slice a1 x.vec.length d1) x.vec := hI1
      have hDQ : IsInts W0.drew (.slice a2 q.length d2) q := hQ1
      have hBx : u5.ownBlock = some wr.heap.size → False := fun e => unhide HOFF e
      have hGD : Grow Lay.tHit W0.drew w.heap.size 66 u5 rows (hitsL (xs.take k) q) bls := hhG.later (below_drawn (Below.refl _ _) 1)
      refine wp_region_noPanic ?_
      refine wp_region_held_drew (S := fun w' => Ext (fun c => u5.ownBlock = some c) W0 w') (by kernel_rfl) (Ext.refl _ _).drew2 (fun hHeld => ?_)
      generalize W0.drew = wD at hHeld hGD hDI hDQ ⊢
      refine wpAnyH_take (i := 0) (oi := { dst := some 17, op := Go.Op.move (Go.Operand.tmp 5), type := 46, pos := "l04_table.go:136", after := #[], guard := none }) (v := ?v0) rfl (by kernel_rfl) (by kernel_rfl) (by kernel_rfl) (fun _ _ _ h => h) (Or.inl ⟨by rfl, ?h0⟩) hHeld ?r0
      case h0 =>
        intro wS hSw
        (try dsimp only at hSw)
        go_simp
        try with_reducible rfl
      case r0 =>
      simp only [Act.put, List.setIfInBounds_toArray, List.set_cons_zero, List.set_cons_succ]
      refine wpAnyH_take (i := 1) (oi := { dst := some 18, op := Go.Op.fieldAddr 133 (Go.Operand.tmp 7) 0, type := 0, pos := "l04_table.go:136", after := #[], guard := none }) (v := ?v1) rfl (by kernel_rfl) (by kernel_rfl) (by kernel_rfl) (fun _ _ _ h => h) (Or.inl ⟨by rfl, ?h1⟩) hHeld ?r1
      case h1 =>
        intro wS hSw
        (try dsimp only at hSw)
        go_simp
        try with_reducible rfl
      case r1 =>
      simp only [Act.put, List.setIfInBounds_toArray, List.set_cons_zero, List.set_cons_succ]
      refine wpAnyH_take (i := 2) (oi := { dst := some 19, op := Go.Op.load 2 (Go.Operand.tmp 18), type := 2, pos := "l04_table.go:136", after := #[{ on := 1, ground := Go.Ground.data }], guard := none }) (v := ?v2) rfl (by kernel_rfl) (by kernel_rfl) (by kernel_rfl) (fun _ _ _ h => h) (Or.inl ⟨by rfl, ?h2⟩) hHeld ?r2
      case h2 =>
        intro wS hSw
        have bx := hbI.ext hSw (fun e => by exact hBx e)
        have y0 := bx.at 0 _ rfl
        have y1 := bx.at 1 _ rfl
        clear bx hSw
        (try dsimp only at hSw)
        go_simp
        try with_reducible rfl
      case r2 =>
      simp only [Act.put, List.setIfInBounds_toArray, List.set_cons_zero, List.set_cons_succ]
      refine wpAnyH_take (i := 3) (oi := { dst := some 20, op := Go.Op.move (Go.Operand.tmp 1), type := 26, pos := "l04_table.go:136", after := #[], guard := none }) (v := ?v3) rfl (by kernel_rfl) (by kernel_rfl) (by kernel_rfl) (fun _ _ _ h => h) (Or.inl ⟨by rfl, ?h3⟩) hHeld ?r3
      case h3 =>
        intro wS hSw
        (try dsimp only at hSw)
        go_simp
        try with_reducible rfl
      case r3 =>
      simp only [Act.put, List.setIfInBounds_toArray, List.set_cons_zero, List.set_cons_succ]
      refine wpAnyH_take (i := 4) (oi := { dst := some 21, op := Go.Op.fieldAddr 133 (Go.Operand.tmp 7) 1, type := 0, pos := "l04_table.go:136", after := #[], guard := none }) (v := ?v4) rfl (by kernel_rfl) (by kernel_rfl) (by kernel_rfl) (fun _ _ _ h => h) (Or.inl ⟨by rfl, ?h4⟩) hHeld ?r4
      case h4 =>
        intro wS hSw
        (try dsimp only at hSw)
        go_simp
        try with_reducible rfl
      case r4 =>
      simp only [Act.put, List.setIfInBounds_toArray, List.set_cons_zero, List.set_cons_succ]
      refine wpAnyH_take (i := 5) (oi := { dst := some 22, op := Go.Op.load 26 (Go.Operand.tmp 21), type := 26, pos := "l04_table.go:136", after := #[{ on := 4, ground := Go.Ground.data }], guard := none }) (v := ?v5) rfl (by kernel_rfl) (by kernel_rfl) (by kernel_rfl) (fun _ _ _ h => h) (Or.inl ⟨by rfl, ?h5⟩) hHeld ?r5
      case h5 =>
        intro wS hSw
        have bx := hbI.ext hSw (fun e => by exact hBx e)
        have y0 := bx.at 0 _ rfl
        have y1 := bx.at 1 _ rfl
        clear bx hSw
        (try dsimp only at hSw)
        go_simp
        try with_reducible rfl
      case r5 =>
      simp only [Act.put, List.setIfInBounds_toArray, List.set_cons_zero, List.set_cons_succ]
      refine wpAnyH_ready (rs := [6]) (by kernel_rfl) (by simp) ?_
      refine AllReadyH.cons (o := { dst := some 23, op := Go.Op.call { callee := Go.Callee.value (Go.Operand.func 31), args := #[Go.Operand.tmp 20, Go.Operand.tmp 22], argTypes := #[26, 26] }, type := 68, pos := "l04_table.go:136", after := #[{ on := 3, ground := Go.Ground.data }, { on := 5, ground := Go.Ground.data }], guard := none }) rfl (fun K hK => ?_) AllReadyH.nil
      go_simp
      go_at_call 31
      have hIa := hDI
      have hQa := hDQ
      have L := implScore_ok (.slice a2 q.length d2) (.slice a1 x.vec.length d1) q1 q2 q3 p1 p2 p3 wD (by rw [← unhide HQ3]; exact hQa) (by rw [← unhide HV3]; exact hIa) (by rw [← unhide HQ3]; exact unhide HFQ) (by rw [← unhide HV3]; exact unhide HVF)
      rw [← unhide HS3] at L
      simp only [intRes] at L
      refine L.mono ?_
      clear L hIa hQa
      rintro e w3 ⟨rfl, hbw⟩
      have hG3 := hGD.later hbw
      have hz3 := hbw.size
      try go_wp2_with fail
      refine hK.out _ _ (hHeld.trans (ext_of_below hbw _)) (fun hHeld => ?_)
      clear hK K
      try simp only [Act.put, List.setIfInBounds_toArray, List.set_cons_zero, List.set_cons_succ]
      refine wpAnyH_take (i := 7) (oi := { dst := some 24, op := Go.Op.field 68 (Go.Operand.tmp 23) 1, type := 2, pos := "l04_table.go:136", after := #[{ on := 6, ground := Go.Ground.data }], guard := none }) (v := ?v7) rfl (by kernel_rfl) (by kernel_rfl) (by kernel_rfl) (fun _ _ _ h => h) (Or.inl ⟨by rfl, ?h7⟩) hHeld ?r7
      case h7 =>
        intro wS hSw
        (try dsimp only at hSw)
        go_simp
        try with_reducible rfl
      case r7 =>
      simp only [Act.put, List.setIfInBounds_toArray, List.set_cons_zero, List.set_cons_succ]
      refine wpAnyH_take (i := 8) (oi := { dst := some 25, op := Go.Op.build 66 #[(0, Go.Operand.tmp 19), (1, Go.Operand.tmp 24)], type := 66, pos := "l04_table.go:136", after := #[{ on := 2, ground := Go.Ground.data }, { on := 7, ground := Go.Ground.data }], guard := none }) (v := ?v8) rfl (by kernel_rfl) (by kernel_rfl) (by kernel_rfl) (fun _ _ _ h => h) (Or.inl ⟨by rfl, ?h8⟩) hHeld ?r8
      case h8 =>
        intro wS hSw
        (try dsimp only at hSw)
        go_simp
        try with_reducible rfl
      case r8 =>
      simp only [Act.put, List.setIfInBounds_toArray, List.set_cons_zero, List.set_cons_succ]
      refine wpAnyH_ready (rs := [9]) (by kernel_rfl) (by simp) ?_
      refine AllReadyH.cons (o := { dst := some 26, op := Go.Op.buildSlice 46 1 #[(0, Go.Operand.tmp 25)], type := 46, pos := "l04_table.go:136", after := #[{ on := 8, ground := Go.Ground.data }], guard := none }) rfl (fun K hK => ?_) AllReadyH.nil
      have hH3 := hHeld
      go_simp
      refine hK.out _ _ (hHeld.trans (ext_of_below ((Below.refl _ _).alloc (Nat.le_refl _) _) _)) (fun hHeld => ?_)
      clear hK K
      try simp only [Act.put, List.setIfInBounds_toArray, List.set_cons_zero, List.set_cons_succ]
      refine wpAnyH_ready (rs := [10]) (by kernel_rfl) (by simp) ?_
      refine AllReadyH.cons (o := { dst := some 27, op := Go.Op.call { callee := Go.Callee.builtin Go.Builtin.append, args := #[Go.Operand.tmp 17, Go.Operand.tmp 26], argTypes := #[46, 46] }, type := 46, pos := "l04_table.go:136", after := #[{ on := 0, ground := Go.Ground.data }, { on := 9, ground := Go.Ground.data }, { on := 6, ground := Go.Ground.chain }], guard := none }) rfl (fun K hK => ?_) AllReadyH.nil
      refine step_append_Hit hG3 (row := [.int .i64 x.id, .int .i64 (score3 q x.vec)]) (x := hitOf q x) (bl := []) (lies_Hit.2 ⟨rfl, rfl, unhide HWI, unhide HWS⟩) (by simp) rfl _ _ rfl rfl rfl (by have := unhide HL; omega) (by have := hH3.size; have := hB0.size; omega) ?_
      rintro g5 cp5 w5 hG5 hb5 hE5 hl5 hz5 -
      refine hK.out _ _ (hH3.trans hE5) (fun hHeld => ?_)
      clear hK K
      try simp only [Act.put, List.setIfInBounds_toArray, List.set_cons_zero, List.set_cons_succ]
      refine wpAnyH_take (i := 11) (oi := { dst := some 5, op := Go.Op.assign (Go.Operand.tmp 27), type := 46, pos := "l04_table.go:136", after := #[{ on := 10, ground := Go.Ground.data }, { on := 10, ground := Go.Ground.chain }, { on := 0, ground := Go.Ground.phase }, { on := 1, ground := Go.Ground.phase }, { on := 2, ground := Go.Ground.phase }, { on := 3, ground := Go.Ground.phase }, { on := 4, ground := Go.Ground.phase }, { on := 5, ground := Go.Ground.phase }, { on := 6, ground := Go.Ground.phase }, { on := 7, ground := Go.Ground.phase }, { on := 8, ground := Go.Ground.phase }, { on := 9, ground := Go.Ground.phase }, { on := 10, ground := Go.Ground.phase }], guard := none }) (v := ?v11) rfl (by kernel_rfl) (by kernel_rfl) (by kernel_rfl) (fun _ _ _ h => h) (Or.inl ⟨by rfl, ?h11⟩) hHeld ?r11
      case h11 =>
        intro wS hSw
        (try dsimp only at hSw)
        go_simp
        try with_reducible rfl
      case r11 =>
      simp only [Act.put, List.setIfInBounds_toArray, List.set_cons_zero, List.set_cons_succ]
      refine wpAnyH_done (by kernel_rfl) ?_ _
      refine NoPanic.normal ?_
      have HG5 := hide hG5
      have HB5 := hide (hB0.trans (hHeld.below hB0.size (fun c hc e => by have := (hhG.own.lt c e).1; omega)))
      clear hHeld hG5 hGD hG3 hhG hI1 hQ1 hB0 hfl
      go_wp2_with fail
      go_roundw
      case rel =>
        have hg := unhide HG5
        rw [← unhide HT] at hg
        exact ⟨k + 1, _, _, by omega, by go_num, hg, unhide HB5⟩
      case measure => simp [intOf]; omega
    · obtain rfl : k = xs.length := by omega
      rw [List.take_length] at hG
      have HG := hide (grow_hits hG).1
      have HB := hide hB
      clear hG hB H
      go_wp2_with fail
      go_ret
      exact ⟨_, rfl, unhide HG, unhide HB⟩

theorem hitsOf_zero (ao : Option Addr) (cap : Nat) (v : Value) (w : World) :
    Calls Tryz.prog 67 #[.slice ao 0 cap, v] w fun e w' => ∃ v, e = .returned v ∧ w'.ownsRow w.heap.size 66 2 v 0 [] ∧ Below w.heap.size w w' := by
  obtain ⟨i0, hi, hz0, hz1, hz2⟩ := info_parts infoAppHit
  go_enter Tryz.func67, Tryz.ntmps67
  go_wp2_with (at_make; refine wpList_make_own _ rfl _ _ 46 rfl w.heap.size 66 i0 _ 2 Tryz.underlying46 hi hz0 hz1 .i64 .i64 _ 0 rfl rfl rfl (by rw [hz2]; omega) (by unfold maxLen; omega) (Nat.le_refl _) ?_)
  intro w1 hown1 hg1
  have HB1 := hide ((Below.refl w.heap.size w).grown hg1 (Nat.le_refl _) (by simp))
  have HO := hide hown1
  clear hown1 hg1 hi hz0 hz1 hz2
  go_wp2_with fail
  refine wp_loop_rounds 1 ?_
  rw [rounds_succ]
  go_wp2_with fail
  go_ret
  exact ⟨_, rfl, unhide HO, unhide HB1⟩

/-- hitsOf of the program. -/
theorem hitsOfC (v : Value) (xs : List DItem) (vq : Value) (q : List Int) (w : World) (h : (Lay.sl Lay.tItem).Reads w [v] xs) (hq : IsInts w vq q) (hf : tableFault xs = 0) (hfq : vecFault q = 0) :
    Calls Tryz.prog 67 #[v, vq] w fun e w' => ∃ v, e = .returned v ∧ w'.ownsRow w.heap.size 66 2 v ((hitsL xs q).map pairH).length (cells2 ((hitsL xs q).map pairH)) ∧ Below w.heap.size w w' := by
  obtain ⟨ao, cap, rfl⟩ := open_sl h
  have hvq : ∃ a d, vq = .slice a q.length d := by obtain ⟨a, d, e, -⟩ := hq; exact ⟨a, d, e⟩
  obtain ⟨a2, d2, rfl⟩ := hvq
  by_cases hp : 0 < xs.length
  · obtain ⟨b, off, rfl, hbl⟩ := Lay.sl_addr h hp
    exact hitsOf_pos b off cap xs a2 d2 q w h hq hbl hf hfq
  · obtain rfl : xs = [] := List.eq_nil_of_length_eq_zero (by omega)
    exact hitsOf_zero ao cap _ w

end Go.Proofs.YtfgadegpdknocaaGreat

namespace Go.Proofs.YtfgadegpdknocaaGreat
open Go.RowKit

theorem implWanted (v : Int) (w : World) :
    Calls Tryz.prog 64 #[.int .i64 v] w fun e w' => e = .returned (.bool (decide (0 ≤ v) && decide (v ≤ 20))) ∧ w' = w := by
  by_cases h1 : 0 ≤ v
  · have d1 : decide (0 ≤ v) = true := by simpa using h1
    rw [d1]
    cases d2 : decide (v ≤ 20) <;>
    · go_enter Tryz.func64, Tryz.ntmps64
      go_wp2_with fail
      go_ret
      exact ⟨rfl, rfl⟩
  · have d1 : decide (0 ≤ v) = false := by simpa using h1
    rw [d1]
    go_enter Tryz.func64, Tryz.ntmps64
    go_wp2_with fail
    go_ret
    exact ⟨rfl, rfl⟩

end Go.Proofs.YtfgadegpdknocaaGreat

namespace Go.Proofs.YtfgadegpdknocaaGreat
open Go.RowKit

set_option maxHeartbeats 400000 in
theorem implIsHit (x y : Int) (w : World) :
    Calls Tryz.prog 80 #[.agg #[.int .i64 x, .int .i64 y]] w fun e w' => e = .returned (.bool (oneB (x, y))) ∧ Below w.heap.size w w' := by
  have B : ∀ o, Below w.heap.size w (w.alloc o) := fun o => (Below.refl _ _).alloc (Nat.le_refl _) o
  have L1 := implId x
  have ho : oneB (x, y) = ((decide (1 ≤ x) && decide (x ≤ 999)) && (decide (0 ≤ y) && decide (y ≤ 12000000))) := rfl
  rw [ho]
  clear ho
  cases hd : (decide (1 ≤ x) && decide (x ≤ 999)) with
  | false =>
    rw [hd] at L1
    clear hd
    go_enter Tryz.func80, Tryz.ntmps80
    go_wp2_with fail
    refine (L1 _).mono ?_
    rintro e w1 ⟨rfl, rfl⟩
    go_wp2_with fail
    go_ret
    exact ⟨rfl, B _⟩
  | true =>
    rw [hd] at L1
    clear hd
    cases d1 : decide (0 ≤ y) with
    | false =>
      go_enter Tryz.func80, Tryz.ntmps80
      go_wp2_with fail
      refine (L1 _).mono ?_
      rintro e w1 ⟨rfl, rfl⟩
      go_wp2_with fail
      go_ret
      exact ⟨rfl, B _⟩
    | true =>
      cases d2 : decide (y ≤ 12000000) <;>
      · go_enter Tryz.func80, Tryz.ntmps80
        go_wp2_with fail
        refine (L1 _).mono ?_
        rintro e w1 ⟨rfl, rfl⟩
        go_wp2_with fail
        go_ret
        exact ⟨rfl, B _⟩

set_option maxHeartbeats 400000 in
theorem implBetter (x y a b : Int) (w : World) :
    Calls Tryz.prog 32 #[.agg #[.int .i64 x, .int .i64 y], .agg #[.int .i64 a, .int .i64 b]] w fun e w' => e = .returned (.bool (bet (x, y) (a, b))) ∧ Below w.heap.size w w' := by
  have B : ∀ o o2, Below w.heap.size w ((w.alloc o).alloc o2) := fun o o2 => ((Below.refl _ _).alloc (Nat.le_refl _) o).alloc (by simp) o2
  by_cases h2 : y = b
  · subst h2
    have e : bet (x, y) (a, y) = decide (x < a) := by simp [bet]
    rw [e]
    go_enter Tryz.func32, Tryz.ntmps32
    go_wp2_with fail
    go_ret
    exact ⟨rfl, B _ _⟩
  · have e : bet (x, y) (a, b) = decide (y < b) := by simp [bet, h2]
    rw [e]
    go_enter Tryz.func32, Tryz.ntmps32
    go_wp2_with fail
    go_ret
    exact ⟨rfl, B _ _⟩

end Go.Proofs.YtfgadegpdknocaaGreat

namespace Go.Proofs.YtfgadegpdknocaaGreat
open Go.RowKit

theorem run_copy_rowk {P : Program} (w : World) (dT sT ty elem : TypeId) (k g o dLen dCap : Nat) (a : Addr) (sLen sCap : Nat) (cur : Array Value) (t : TypeId) (cs : List Value)
    (hu : P.underlying dT = some (.slice elem)) (hs : (P.info? elem).map (·.size) = some k)
    (hg : w.heap[g]? = some (.cells cur t (0, 0))) (m : Nat) (hm : Nat.min sLen dLen = m) (hn : cs.length = m * k)
    (hsrc : ∀ j v, cs[j]? = some v → w.cell? (a.add j) = some v) (hfit : o + cs.length ≤ cur.size) (h1 : ∀ v ∈ cs, v.oneCell' = true) :
    (Builtin.copy_ #[dT, sT] ty #[.slice (some ⟨g, o, none⟩) dLen dCap, .slice (some a) sLen sCap]).run P w =
      .ok (goInt m) (w.setRow g (cur.toList.take o ++ cs ++ cur.toList.drop (o + cs.length)).toArray) := by
  have hl := run_loadCells_list (P := P) w a cs hsrc
  have hst := run_storeCells_at P g o t cs 0 cur w hg (by simpa using hfit) h1
  cases hq : P.info? elem with
  | none => simp [hq] at hs
  | some i =>
    have hi : i.size = k := by simpa [hq] using hs
    simp [Builtin.copy_, run_underlying hu, Builtin.lenOf, Builtin.firstCells, sizeOf, typeInfo, hq, hi, hm, ← hn, hl, hst]

/-- The row behind a copy. -/
def laidOver (cur : List Value) (o : Nat) (cs : List Value) : List Value := cur.take o ++ cs ++ cur.drop (o + cs.length)

theorem run_copy_hits (w : World) (ty g o dLen dCap : Nat) (a : Addr) (sLen sCap : Nat) (cur : List Value) (t : TypeId) (cs : List Value)
    (hg : w.heap[g]? = some (.cells cur.toArray t (0, 0))) (m : Nat) (hm : Nat.min sLen dLen = m) (hn : cs.length = m * 2)
    (hsrc : ∀ j v, cs[j]? = some v → w.cell? (a.add j) = some v) (hfit : o + cs.length ≤ cur.length) (h1 : ∀ v ∈ cs, v.oneCell' = true) :
    ∃ w', (Builtin.copy_ #[46, 46] ty #[.slice (some ⟨g, o, none⟩) dLen dCap, .slice (some a) sLen sCap]).run Tryz.prog w = .ok (goInt m) w' ∧
      w'.heap[g]? = some (.cells (laidOver cur o cs).toArray t (0, 0)) ∧ w.grownBy w' (some g) := by
  obtain ⟨i0, hi, hz0, hz1, hz2⟩ := info_parts infoHit
  refine ⟨_, run_copy_rowk w 46 46 ty 66 2 g o dLen dCap a sLen sCap cur.toArray t cs Tryz.underlying46 (by rw [hi]; simp [hz1]) hg m hm hn hsrc (by simpa using hfit) h1, ?_, ?_⟩
  · simpa [laidOver] using setRow_heap w g _ _ t _ hg
  · exact ⟨rfl, rfl, rfl, by simp, fun k _ hk => setRow_other w g k _ (fun e => hk (by rw [e]))⟩

theorem wpList_copy_hits {w : World} {ops : Array Oper} {rest : List Oper} {o : Oper} {a : Act} {Q : Exit → Act → World → Prop} (hgd : o.guard = none) (d s : Operand)
    (ho : o.op = .call { callee := .builtin .copy, args := #[d, s], argTypes := #[46, 46] })
    (g off dLen dCap : Nat) (ad : Addr) (sLen sCap : Nat) (hd : a.eval d = .slice (some ⟨g, off, none⟩) dLen dCap) (hs : a.eval s = .slice (some ad) sLen sCap)
    (cur : List Value) (t : TypeId) (cs : List Value) (hg : w.heap[g]? = some (.cells cur.toArray t (0, 0))) (m : Nat) (hm : Nat.min sLen dLen = m) (hn : cs.length = m * 2)
    (hsrc : ∀ j v, cs[j]? = some v → w.cell? (ad.add j) = some v) (hfit : off + cs.length ≤ cur.length) (h1 : ∀ v ∈ cs, v.oneCell' = true)
    (h : ∀ w', w'.heap[g]? = some (.cells (laidOver cur off cs).toArray t (0, 0)) → w.grownBy w' (some g) → wpList Tryz.prog ops Q rest (a.put o.dst (goInt m)) w') :
    wpList Tryz.prog ops Q (o :: rest) a w := by
  refine wpList_plain hgd fun K hK => ?_
  obtain ⟨w', hr, h2, h3⟩ := run_copy_hits w o.type g off dLen dCap ad sLen sCap cur t cs hg m hm hn hsrc hfit h1
  unfold Oper.wp execOp
  simp only [ho, resolve, invoke, builtin, Sem.run_bind, Sem.run_pure, Result.andThen_ok, List.map_toArray, List.map_cons, List.map_nil, hd, hs, hr]
  exact hK _ _ (h w' h2 h3)

theorem step_copy_hits {ops : Array Oper} {o : Oper} {a : Act} {w : World} {K : Act → World → Prop} {Q : Exit → Act → World → Prop} {E : Prop} (hgd : o.guard = none) (d s : Operand)
    (ho : o.op = .call { callee := .builtin .copy, args := #[d, s], argTypes := #[46, 46] })
    (g off dLen dCap : Nat) (ad : Addr) (sLen sCap : Nat) (hd : a.eval d = .slice (some ⟨g, off, none⟩) dLen dCap) (hs : a.eval s = .slice (some ad) sLen sCap)
    (cur : List Value) (t : TypeId) (cs : List Value) (hg : w.heap[g]? = some (.cells cur.toArray t (0, 0))) (m : Nat) (hm : Nat.min sLen dLen = m) (hn : cs.length = m * 2)
    (hsrc : ∀ j v, cs[j]? = some v → w.cell? (ad.add j) = some v) (hfit : off + cs.length ≤ cur.length) (h1 : ∀ v ∈ cs, v.oneCell' = true)
    (h : ∀ w', w'.heap[g]? = some (.cells (laidOver cur off cs).toArray t (0, 0)) → w.grownBy w' (some g) → K (a.put o.dst (goInt m)) w') :
    if Region.wanted o (yielded ops a.tmps) = true then Oper.wp Tryz.prog o a w K Q else E := by
  have hw : Region.wanted o (yielded ops a.tmps) = true := by simp [Region.wanted, hgd]
  rw [if_pos hw]
  obtain ⟨w', hr, h2, h3⟩ := run_copy_hits w o.type g off dLen dCap ad sLen sCap cur t cs hg m hm hn hsrc hfit h1
  unfold Oper.wp
  simp [execOp, ho, resolve, invoke, builtin, hd, hs, hr, Result.andThen]
  exact h w' h2 h3

theorem cells2_drop (hs : List (Int × Int)) (k : Nat) : (cells2 hs).drop (k * 2) = cells2 (hs.drop k) := by
  induction hs generalizing k with
  | nil => simp [cells2]
  | cons h r ih =>
    cases k with
    | zero => simp [cells2]
    | succ k => simp [cells2, ih, Nat.add_mul]

/-- A hit put into the midst of a row: what stood from there on is moved, then the hit is laid. -/
theorem shift_row {cur : List Value} {hs : List (Int × Int)} {n at_ cap : Nat} (x y : Int) (hl : hs.length = n) (hcur : cur.length = cap * 2) (ht : cur.take (n * 2) = cells2 hs) (hat : at_ < n) (hroom : n + 1 ≤ cap) :
    (laidOver (laidOver cur ((at_ + 1) * 2) (cells2 (hs.drop at_))) (at_ * 2) [.int .i64 x, .int .i64 y]).length = cap * 2 ∧
    (laidOver (laidOver cur ((at_ + 1) * 2) (cells2 (hs.drop at_))) (at_ * 2) [.int .i64 x, .int .i64 y]).take ((n + 1) * 2) = cells2 (hs.take at_ ++ (x, y) :: hs.drop at_) := by
  have e1 : (laidOver cur ((at_ + 1) * 2) (cells2 (hs.drop at_))).take (at_ * 2) = cells2 (hs.take at_) := by
    unfold laidOver
    rw [List.append_assoc, List.take_append_of_le_length (by simp; omega), List.take_take, ← cells2_take, ← ht, List.take_take]
    congr 1
    omega
  have e2 : (laidOver cur ((at_ + 1) * 2) (cells2 (hs.drop at_))).drop (at_ * 2 + 2) = cells2 (hs.drop at_) ++ cur.drop ((at_ + 1) * 2 + (cells2 (hs.drop at_)).length) := by
    unfold laidOver
    have : (cur.take ((at_ + 1) * 2)).length = at_ * 2 + 2 := by simp; omega
    rw [List.append_assoc, ← this, List.drop_left]
  have e3 : laidOver (laidOver cur ((at_ + 1) * 2) (cells2 (hs.drop at_))) (at_ * 2) [.int .i64 x, .int .i64 y] = cells2 (hs.take at_ ++ (x, y) :: hs.drop at_) ++ cur.drop ((at_ + 1) * 2 + (cells2 (hs.drop at_)).length) := by
    rw [laidOver, e1]
    simp only [List.length_cons, List.length_nil, Nat.zero_add, e2, cells2_app, cells2]
    simp
  have e4 : (cells2 (hs.take at_ ++ (x, y) :: hs.drop at_)).length = (n + 1) * 2 := by
    rw [cells2_len]
    simp
    omega
  rw [e3]
  constructor
  · rw [List.length_append, e4, cells2_len]
    simp
    omega
  · rw [← e4, List.take_left]

theorem laidOver_len {cur : List Value} {o : Nat} {cs : List Value} (h : o + cs.length ≤ cur.length) : (laidOver cur o cs).length = cur.length := by
  unfold laidOver
  simp
  omega

/-- A hit put into a new row behind what stood ahead of it, then what stood from there on. -/
theorem grow_row {row : List Value} {hs : List (Int × Int)} {n at_ cap : Nat} (x y : Int) (hl : hs.length = n) (hrow : row.length = cap * 2) (ht : row.take (at_ * 2) = cells2 (hs.take at_)) (hat : at_ < n) (hroom : n + 1 ≤ cap) :
    (laidOver (laidOver row (at_ * 2) [.int .i64 x, .int .i64 y]) ((at_ + 1) * 2) (cells2 (hs.drop at_))).length = cap * 2 ∧
    (laidOver (laidOver row (at_ * 2) [.int .i64 x, .int .i64 y]) ((at_ + 1) * 2) (cells2 (hs.drop at_))).take ((n + 1) * 2) = cells2 (hs.take at_ ++ (x, y) :: hs.drop at_) := by
  have hcl : (cells2 (hs.take at_)).length = at_ * 2 := by rw [cells2_len]; simp; omega
  have e1 : (laidOver row (at_ * 2) [.int .i64 x, .int .i64 y]).take ((at_ + 1) * 2) = cells2 (hs.take at_) ++ [.int .i64 x, .int .i64 y] := by
    unfold laidOver
    rw [ht]
    have : (at_ + 1) * 2 = (cells2 (hs.take at_) ++ [Value.int .i64 x, Value.int .i64 y]).length := by rw [List.length_append, hcl]; simp; omega
    rw [this, List.take_left]
  have e3 : laidOver (laidOver row (at_ * 2) [.int .i64 x, .int .i64 y]) ((at_ + 1) * 2) (cells2 (hs.drop at_)) = cells2 (hs.take at_ ++ (x, y) :: hs.drop at_) ++ (laidOver row (at_ * 2) [.int .i64 x, .int .i64 y]).drop ((at_ + 1) * 2 + (cells2 (hs.drop at_)).length) := by
    rw [laidOver, e1]
    simp only [cells2_app, cells2]
    simp
  have e4 : (cells2 (hs.take at_ ++ (x, y) :: hs.drop at_)).length = (n + 1) * 2 := by
    rw [cells2_len]
    simp
    omega
  have e5 : (laidOver row (at_ * 2) [.int .i64 x, .int .i64 y]).length = cap * 2 := by rw [laidOver_len (by simp; omega), hrow]
  rw [e3]
  constructor
  · rw [List.length_append, e4, List.length_drop, e5, cells2_len]
    simp
    omega
  · rw [← e4, List.take_left]

end Go.Proofs.YtfgadegpdknocaaGreat

namespace Go.Proofs.YtfgadegpdknocaaGreat
open Go.RowKit

theorem grown_undrew {w w' : World} {r : Option Nat} (h : w.drew.grownBy w' r) : w.grownBy w' r := ⟨h.os, h.tape, h.output, h.size, h.block⟩

theorem own_le' {w : World} {base T sz g n cap : Nat} {xs : List Value} (h : w.ownsRow base T sz (.slice (some ⟨g, 0, none⟩) n cap) n xs) : n ≤ cap := by
  rcases h.2 with ⟨h0, _⟩ | ⟨g, c, cur, h0, _, _, h1, _⟩
  · simp at h0
  · simp only [Value.slice.injEq] at h0
    obtain ⟨-, -, rfl⟩ := h0
    exact h1

theorem cells2_of_heap {w : World} {vb : Nat} {x y : Value} {T : TypeId} (h : w.heap[vb]? = some (.cells #[x, y] T (0, 0))) : w.cell? ⟨vb, 0, none⟩ = some x ∧ w.cell? ⟨vb, 1, none⟩ = some y := by
  constructor <;> simp [World.cell?, h]

theorem news_of_heap {w : World} {vb : Nat} {x y : Int} {T : TypeId} (h : w.heap[vb]? = some (.cells #[.int .i64 x, .int .i64 y] T (0, 0))) :
    ∀ j v, [Value.int .i64 x, Value.int .i64 y][j]? = some v → w.cell? ((⟨vb, 0, none⟩ : Addr).add j) = some v := by
  intro j v hj
  rw [Addr.add_lit, Nat.zero_add]
  match j, hj with
  | 0, hj =>
    simp at hj
    subst hj
    exact (cells2_of_heap h).1
  | 1, hj =>
    simp at hj
    subst hj
    exact (cells2_of_heap h).2

theorem news_of_row {w : World} {g n at_ : Nat} {cur : List Value} {hs : List (Int × Int)} {T : TypeId} (hg : w.heap[g]? = some (.cells cur.toArray T (0, 0))) (ht : cur.take (n * 2) = cells2 hs) (o : Nat) (ho : o = at_ * 2) :
    ∀ j v, (cells2 (hs.drop at_))[j]? = some v → w.cell? ((⟨g, o, none⟩ : Addr).add j) = some v := by
  intro j v hj
  rw [Addr.add_lit]
  rw [← cells2_drop, List.getElem?_drop, ← ht, List.getElem?_take] at hj
  split at hj
  · rw [ho]
    simp [World.cell?, hg, hj]
  · cases hj

set_option maxRecDepth 100000 in
set_option maxHeartbeats 1000000 in
/-- There is room, and the place is not the end. -/
theorem insert_shift (base g n cap at_ vb : Nat) (hs : List (Int × Int)) (x y : Int) (w : World) (hown : w.ownsRow base 66 2 (.slice (some ⟨g, 0, none⟩) n cap) n (cells2 hs)) (hat : at_ < n) (hroom : n + 1 ≤ cap)
    (hvg : vb ≠ g) (hv : w.heap[vb]? = some (.cells #[.int .i64 x, .int .i64 y] 66 (0, 0))) :
    Calls Tryz.prog 151 #[.slice (some ⟨g, 0, none⟩) n cap, .int .i64 at_, .slice (some ⟨vb, 0, none⟩) 1 1] w fun e w' =>
      e = .returned (.slice (some ⟨g, 0, none⟩) (n + 1) cap) ∧ w'.ownsRow base 66 2 (.slice (some ⟨g, 0, none⟩) (n + 1) cap) (n + 1) (cells2 (hs.take at_ ++ (x, y) :: hs.drop at_)) ∧ w.grownBy w' (some g) := by
  have hl2 : hs.length = n := by have := hown.1; rw [cells2_len] at this; omega
  obtain ⟨cur, hbg, hg, hcm, hcs, ht⟩ : ∃ cur : List Value, base ≤ g ∧ w.heap[g]? = some (.cells cur.toArray 66 (0, 0)) ∧ cap ≤ maxLen ∧ cur.length = cap * 2 ∧ cur.take (n * 2) = cells2 hs := by
    rcases hown.2 with ⟨h', _⟩ | ⟨g', cap', cur, h', hb, hg, hnc, hcm, hcs, htake⟩
    · simp at h'
    · simp only [Value.slice.injEq, Option.some.injEq, Addr.mk.injEq, and_true, true_and] at h'
      obtain ⟨rfl, rfl⟩ := h'
      exact ⟨cur.toList, hb, by simpa using hg, hcm, by simpa using hcs, htake⟩
  have R := shift_row x y hl2 hcs ht hat hroom
  have HR := hide R
  have HT := hide ht
  have HCS := hide hcs
  have HG := hide hg
  have HV := hide hv
  have hov : ∀ lb cb o, (callFunc 166 #[.slice (some ⟨vb, 0, none⟩) 1 1, .slice (some ⟨g, o, none⟩) lb cb]).run Tryz.prog w = .ok (.value (.bool false)) w := fun lb cb o => by
    rw [run_callFunc_extern Tryz.func166 (by kernel_rfl) (by kernel_rfl) (by kernel_rfl) (e := Extern.SlicesOverlaps.overlaps #[46, 46] #[4]) (by kernel_rfl),
      Lib.run_overlaps_apart w 46 4 66 Tryz.underlying46 2 Tryz.sizeOf66 ⟨vb, 0, none⟩ ⟨g, o, none⟩ 1 1 lb cb hvg 66 66 2 (cap * 2) (by simp [World.shape?, hv]) (by simp [World.shape?, hg, hcs]) (by omega) (by simp [World.frozen?, hv]) (by simp [World.frozen?, hv])]
    rfl
  have hbd : (cap : Int) ≤ 9223372036854775807 := by unfold maxLen at hcm; omega
  have hz2 : ¬ ((at_ : Int) = (n : Int)) := by omega
  have hw1 : IntKind.i64.wrap ((at_ : Int) + 1) = (at_ : Int) + 1 := by rw [IntKind.wrap_i64]; omega
  have hb1 : (0 : Int) ≤ (at_ : Int) + 1 := by omega
  have htn : ((at_ : Int) + 1).toNat = at_ + 1 := by omega
  have hb2 : ¬ (cap = at_ + 1) := by omega
  have hb4 : ¬ (cap = at_) := by omega
  have hb3 : (at_ : Int) ≤ (n : Int) + 1 := by omega
  have hin : (at_ : Int) ≤ (n : Int) := by omega
  have HCM := hcm
  clear R ht hcs hg hv hown hcm
  go_enter Tryz.func151, Tryz.ntmps151
  go_wp2_with (simp only [hov])
  have m1 : Nat.min (n + 1 - at_) (n + 1 - (at_ + 1)) = n - at_ := by simp only [Nat.min_def]; split <;> omega
  have m2 : (cells2 (hs.drop at_)).length = (n - at_) * 2 := by rw [cells2_len, List.length_drop, hl2]
  have m3 : (at_ + 1) * 2 + (cells2 (hs.drop at_)).length ≤ cur.length := by rw [m2, unhide HCS]; omega
  have M1 := hide m1
  have M2 := hide m2
  have M3 := hide m3
  clear m1 m2 m3
  go_region_law (first
    | (refine step_copy_hits rfl _ _ rfl g ((at_ + 1) * 2) (n + 1 - (at_ + 1)) (cap - (at_ + 1)) ⟨g, at_ * 2, none⟩ (n + 1 - at_) (cap - at_) (by simp [Act.eval, Act.put]) (by simp [Act.eval, Act.put]) cur 66 (cells2 (hs.drop at_)) (unhide HG) (n - at_) (unhide M1) (unhide M2) (news_of_row (unhide HG) (unhide HT) _ rfl) (unhide M3) (cells2_one _) ?_; intro w1 G1 B1; have GG1 := hide G1; have BB1 := hide (show w.grownBy w1 (some g) from ⟨B1.os, B1.tape, B1.output, B1.size, B1.block⟩); clear G1 B1))
  have V1 : w1.heap[vb]? = some (.cells #[.int .i64 x, .int .i64 y] 66 (0, 0)) := ((unhide BB1).block vb (lt_of_block (unhide HV)) (by simpa using hvg)).trans (unhide HV)
  have m4 : at_ * 2 + [Value.int .i64 x, Value.int .i64 y].length ≤ (laidOver cur ((at_ + 1) * 2) (cells2 (hs.drop at_))).length := by
    rw [laidOver_len (unhide M3), unhide HCS]
    simp
    omega
  have m5 : Nat.min 1 (n + 1 - at_) = 1 := by simp only [Nat.min_def]; split <;> omega
  have HV1 := hide V1
  have M4 := hide m4
  have M5 := hide m5
  clear V1 m4 m5
  obtain ⟨w2, hcp, G2, B2⟩ := run_copy_hits w1 3 g (at_ * 2) (n + 1 - at_) (cap - at_) ⟨vb, 0, none⟩ 1 1 _ 66 [Value.int .i64 x, Value.int .i64 y] (unhide GG1) 1 (unhide M5) rfl (news_of_heap (unhide HV1)) (unhide M4) (by simp [Value.oneCell'])
  have GG2 := hide G2
  have BB2 := hide B2
  clear G2 B2
  go_wp2_with (simp only [hcp])
  go_ret
  have e4 : (cells2 (hs.take at_ ++ (x, y) :: hs.drop at_)).length = (n + 1) * 2 := by
    rw [cells2_len]
    simp
    omega
  exact ⟨rfl, ⟨e4, .inr ⟨g, cap, _, rfl, hbg, unhide GG2, hroom, HCM, by simpa using (unhide HR).1, by simpa using (unhide HR).2⟩⟩, grown_trans (unhide BB1) (unhide BB2)⟩

/-- append of zero hits onto a row's head, where there is no room: a new row that holds that head. -/
theorem run_append_zeros (w : World) (g at_ k cap : Nat) (hs : List (Int × Int)) (hl : at_ ≤ hs.length) (hc : ∀ j v, (cells2 hs)[j]? = some v → w.cell? ((⟨g, 0, none⟩ : Addr).add j) = some v) (h0 : 0 < k) (hfull : cap < at_ + k) (hbig : at_ + k ≤ 100000000) (ty : TypeId) :
    ∃ G row w1, (Builtin.append_ #[46, 3] ty #[.slice (some ⟨g, 0, none⟩) at_ cap, .int .i64 k]).run Tryz.prog w = .ok (.slice (some ⟨w.heap.size, 0, none⟩) (at_ + k) G) w1 ∧
      w1.heap[w.heap.size]? = some (.cells (row : List Value).toArray 66 (0, 0)) ∧ row.length = G * 2 ∧ row.take (at_ * 2) = cells2 (hs.take at_) ∧ at_ + k ≤ G ∧ G ≤ maxLen ∧ w.grownBy w1 none ∧ w1.heap.size = w.heap.size + 1 := by
  obtain ⟨i0, hi, hz0, hz1, hz2⟩ := info_parts infoHit
  have hlen : (cells2 (hs.take at_)).length = at_ * 2 := by rw [cells2_len]; simp; omega
  have hold : (Builtin.firstCells i0.size at_ (.slice (some ⟨g, 0, none⟩) at_ cap)).run Tryz.prog w.drew = .ok (cells2 (hs.take at_)).toArray w.drew := by
    rw [hz1]
    refine run_firstCells_some w.drew 2 at_ ⟨g, 0, none⟩ at_ cap (cells2 (hs.take at_)) hlen (fun j v hj => ?_)
    rw [← cells2_take, List.getElem?_take] at hj
    split at hj
    · exact hc j v hj
    · cases hj
  have hr := Lib.run_append_grow_zeros w 46 3 ty 66 i0 _ .i64 .i64 Tryz.underlying46 Tryz.underlying3 hi hz0 (some ⟨g, 0, none⟩) at_ cap (cells2 (hs.take at_)) hold k h0 (by omega) hfull (by omega) (by rw [hz2]; omega) (by rw [hz2]; exact growslice_fits hfull (by omega))
  have hge := grownCap_ge w (at_ + k) cap 66
  have hle := grownCap_le_maxLen w (at_ + k) cap 66 (by unfold maxLen; omega)
  generalize grownCap w (at_ + k) cap 66 = G at *
  have hzl : ∀ q, (Builtin.zeroCells (Value.agg #[.int .i64 0, .int .i64 0]).cells q).size = q * 2 := fun q => by rw [size_zeroCells]; rfl
  have hA : ∀ arr : Array Value, arr = (cells2 (hs.take at_)).toArray ++ Builtin.zeroCells (Value.agg #[.int .i64 0, .int .i64 0]).cells k ++ Builtin.zeroCells (Value.agg #[.int .i64 0, .int .i64 0]).cells (G - (at_ + k)) → arr.toList.length = G * 2 ∧ arr.toList.take (at_ * 2) = cells2 (hs.take at_) := by
    rintro arr rfl
    refine ⟨?_, ?_⟩
    · rw [Array.length_toList, Array.size_append, Array.size_append, hzl, hzl, List.size_toArray, hlen]
      omega
    · rw [Array.toList_append, Array.toList_append, List.append_assoc, ← hlen]
      exact List.take_left
  obtain ⟨h1, h2⟩ := hA _ rfl
  refine ⟨G, ((cells2 (hs.take at_)).toArray ++ Builtin.zeroCells (Value.agg #[.int .i64 0, .int .i64 0]).cells k ++ Builtin.zeroCells (Value.agg #[.int .i64 0, .int .i64 0]).cells (G - (at_ + k))).toList, _, hr, ?_, h1, h2, hge, hle, ⟨rfl, rfl, rfl, by simp, fun _ hq _ => heap_alloc_old w.drew _ hq⟩, by simp⟩
  rw [Array.toArray_toList]
  exact heap_alloc_new w.drew _

set_option maxRecDepth 100000 in
set_option maxHeartbeats 1000000 in
/-- There is no room, and the place is not the end: a new row. -/
theorem insert_grow (base g n cap at_ vb : Nat) (hs : List (Int × Int)) (x y : Int) (w : World) (hown : w.ownsRow base 66 2 (.slice (some ⟨g, 0, none⟩) n cap) n (cells2 hs)) (hat : at_ < n) (hroom : ¬ n + 1 ≤ cap) (hn : n < 100000000) (hbase : base ≤ w.heap.size)
    (hv : w.heap[vb]? = some (.cells #[.int .i64 x, .int .i64 y] 66 (0, 0))) :
    Calls Tryz.prog 151 #[.slice (some ⟨g, 0, none⟩) n cap, .int .i64 at_, .slice (some ⟨vb, 0, none⟩) 1 1] w fun e w' =>
      ∃ G, e = .returned (.slice (some ⟨w.heap.size, 0, none⟩) (n + 1) G) ∧ w'.ownsRow base 66 2 (.slice (some ⟨w.heap.size, 0, none⟩) (n + 1) G) (n + 1) (cells2 (hs.take at_ ++ (x, y) :: hs.drop at_)) ∧ w.grownBy w' (some g) := by
  have hl2 : hs.length = n := by have := hown.1; rw [cells2_len] at this; omega
  have hcells := hown.cells (g := g) rfl
  have hnc := own_le' hown
  have hkk : (n : Int) + 1 - (at_ : Int) = ((n + 1 - at_ : Nat) : Int) := by omega
  obtain ⟨cur, hg, ht⟩ : ∃ cur : List Value, w.heap[g]? = some (.cells cur.toArray 66 (0, 0)) ∧ cur.take (n * 2) = cells2 hs := by
    rcases hown.2 with ⟨h', _⟩ | ⟨g', cap', cur, h', hb, hg, hnc, hcm, hcs, htake⟩
    · simp at h'
    · simp only [Value.slice.injEq, Option.some.injEq, Addr.mk.injEq, and_true, true_and] at h'
      obtain ⟨rfl, rfl⟩ := h'
      exact ⟨cur.toList, by simpa using hg, htake⟩
  have hgw : g < w.heap.size := lt_of_block hg
  have hvw : vb < w.heap.size := lt_of_block hv
  have AZ := fun ty => run_append_zeros w g at_ (n + 1 - at_) cap hs (by omega) hcells (by omega) (by omega) (by omega) ty
  rw [show at_ + (n + 1 - at_) = n + 1 by omega] at AZ
  have HAZ := hide AZ
  have HG := hide hg
  have HT := hide ht
  have HV := hide hv
  have hz2 : ¬ ((at_ : Int) = (n : Int)) := by omega
  have hz3 : (cap : Int) < (n : Int) + 1 := by omega
  have hw1 : IntKind.i64.wrap ((at_ : Int) + 1) = (at_ : Int) + 1 := by rw [IntKind.wrap_i64]; omega
  have hb1 : (0 : Int) ≤ (at_ : Int) + 1 := by omega
  have htn : ((at_ : Int) + 1).toNat = at_ + 1 := by omega
  have hb4 : ¬ (cap = at_) := by omega
  have hin : (at_ : Int) ≤ (n : Int) := by omega
  have hac : (at_ : Int) ≤ (cap : Int) := by omega
  have hw2 : IntKind.i64.wrap ((n : Int) + 1 - (at_ : Int)) = (n : Int) + 1 - (at_ : Int) := by rw [IntKind.wrap_i64]; omega
  have HKK := hide hkk
  clear AZ hg ht hv hown hcells hkk
  go_enter Tryz.func151, Tryz.ntmps151
  obtain ⟨G, row, w1, hr, hrow, hrl, hrt, hG1, hG2, hgr, hsz⟩ := unhide HAZ 46
  rw [← unhide HKK] at hr
  have R := grow_row x y hl2 hrl hrt hat hG1
  have HR := hide R
  have m1 : at_ * 2 + [Value.int .i64 x, Value.int .i64 y].length ≤ row.length := by rw [hrl]; simp; omega
  have m5 : Nat.min 1 (n + 1 - at_) = 1 := by simp only [Nat.min_def]; split <;> omega
  have V1 : w1.heap[vb]? = some (.cells #[.int .i64 x, .int .i64 y] 66 (0, 0)) := (hgr.block vb hvw (by simp)).trans (unhide HV)
  have g1 : w1.heap[g]? = some (.cells cur.toArray 66 (0, 0)) := (hgr.block g hgw (by simp)).trans (unhide HG)
  obtain ⟨w2, hcp, G2, B2⟩ := run_copy_hits w1 3 w.heap.size (at_ * 2) (n + 1 - at_) (G - at_) ⟨vb, 0, none⟩ 1 1 _ 66 [Value.int .i64 x, Value.int .i64 y] hrow 1 m5 rfl (news_of_heap V1) m1 (by simp [Value.oneCell'])
  have g2 : w2.heap[g]? = some (.cells cur.toArray 66 (0, 0)) := (B2.block g (by omega) (by simp; omega)).trans g1
  have k1 : Nat.min (n - at_) (n + 1 - (at_ + 1)) = n - at_ := by simp only [Nat.min_def]; split <;> omega
  have k2 : (cells2 (hs.drop at_)).length = (n - at_) * 2 := by rw [cells2_len, List.length_drop, hl2]
  have k3 : (at_ + 1) * 2 + (cells2 (hs.drop at_)).length ≤ (laidOver row (at_ * 2) [Value.int .i64 x, Value.int .i64 y]).length := by rw [laidOver_len m1, k2, hrl]; omega
  have GG2 := hide G2
  have BB2 : Hid (w.grownBy w2 (some g)) := ⟨B2.os.trans hgr.os, B2.tape.trans hgr.tape, B2.output.trans hgr.output, Nat.le_trans hgr.size B2.size, fun i hi _ => (B2.block i (by omega) (by simp; omega)).trans (hgr.block i hi (by simp))⟩
  have HG2 := hide g2
  have K1 := hide k1
  have K2 := hide k2
  have K3 := hide k3
  have HM := hide hG2
  have hGb : (G : Int) ≤ 9223372036854775807 := by unfold maxLen at hG2; omega
  have hGi : ¬ (G = at_) := by omega
  have hGi1 : ¬ (G = at_ + 1) := by omega
  have hn1 : (at_ : Int) ≤ (n : Int) + 1 := by omega
  have hsw2 : w.heap.size < w2.heap.size := by have := B2.size; omega
  clear R m1 m5 V1 g1 g2 k1 k2 k3 G2 B2 hrow hrl hrt hG2 hgr hsz HAZ HG HV
  go_wp2_with (first | (at_builtin; refine Lib.wpList_append_run _ rfl _ _ _ _ rfl _ _ rfl rfl _ _ hr ?_) | simp only [hcp])
  go_region_law (first
    | (refine step_copy_hits rfl _ _ rfl w.heap.size ((at_ + 1) * 2) (n + 1 - (at_ + 1)) (G - (at_ + 1)) ⟨g, at_ * 2, none⟩ (n - at_) (cap - at_) (by simp [Act.eval, Act.put]) (by simp [Act.eval, Act.put]) _ 66 (cells2 (hs.drop at_)) (unhide GG2) (n - at_) (unhide K1) (unhide K2) (news_of_row (unhide HG2) (unhide HT) _ rfl) (unhide K3) (cells2_one _) ?_; intro w3 G3 B3; have GG3 := hide G3; have BB3 := hide (show w2.grownBy w3 (some w.heap.size) from ⟨B3.os, B3.tape, B3.output, B3.size, B3.block⟩); clear G3 B3))
  go_wp2_with fail
  go_ret
  have e4 : (cells2 (hs.take at_ ++ (x, y) :: hs.drop at_)).length = (n + 1) * 2 := by
    rw [cells2_len]
    simp
    omega
  refine ⟨G, rfl, ⟨e4, .inr ⟨w.heap.size, G, _, rfl, hbase, unhide GG3, hG1, unhide HM, by simpa using (unhide HR).1, by simpa using (unhide HR).2⟩⟩, ?_⟩
  have b2 := unhide BB2
  have b3 := unhide BB3
  exact ⟨b3.os.trans b2.os, b3.tape.trans b2.tape, b3.output.trans b2.output, Nat.le_trans b2.size b3.size, fun i hi hr => (b3.block i (by have := b2.size; omega) (by simp; omega)).trans (b2.block i hi hr)⟩

theorem isHits_heap {w : World} {vb : Nat} {x y : Int} (h : w.heap[vb]? = some (.cells #[.int .i64 x, .int .i64 y] 66 (0, 0))) (hwf : Wf2 (x, y)) : IsHits w (.slice (some ⟨vb, 0, none⟩) 1 1) [(x, y)] := by
  refine ⟨_, _, rfl, by simp, ⟨by unfold maxLen; omega, by simp⟩, by simpa using hwf, fun _ => ⟨vb, 0, rfl, fun j a b hj => ?_⟩⟩
  cases j with
  | zero =>
    simp at hj
    obtain ⟨rfl, rfl⟩ := hj
    exact cells2_of_heap h
  | succ j => simp at hj

set_option maxRecDepth 100000 in
set_option maxHeartbeats 1000000 in
/-- At the end. -/
theorem insert_end (base g n cap vb : Nat) (hs : List (Int × Int)) (x y : Int) (w : World) (hown : w.ownsRow base 66 2 (.slice (some ⟨g, 0, none⟩) n cap) n (cells2 hs)) (hn : n < 100000000) (hbase : base ≤ w.heap.size)
    (hv : w.heap[vb]? = some (.cells #[.int .i64 x, .int .i64 y] 66 (0, 0))) (hwf : Wf2 (x, y)) :
    Calls Tryz.prog 151 #[.slice (some ⟨g, 0, none⟩) n cap, .int .i64 n, .slice (some ⟨vb, 0, none⟩) 1 1] w fun e w' =>
      ∃ r, e = .returned r ∧ w'.ownsRow base 66 2 r (n + 1) (cells2 (hs ++ [(x, y)])) ∧ w.grownBy w' (some g) := by
  have hnc := own_le' hown
  have X := isHits_heap hv hwf
  have hin : (n : Int) ≤ (cap : Int) := by omega
  have hz : ((n : Int) == (n : Int)) = true := by simp
  have hcm : cap ≤ maxLen := by
    rcases hown.2 with ⟨h', _⟩ | ⟨g', cap', cur, h', hb, hg, hnc, hcm, hcs, htake⟩
    · simp at h'
    · simp only [Value.slice.injEq] at h'
      obtain ⟨-, -, rfl⟩ := h'
      exact hcm
  have hbd : (cap : Int) ≤ 9223372036854775807 := by unfold maxLen at hcm; omega
  clear hv hwf hcm
  by_cases hc : cap = n
  · subst hc
    go_enter Tryz.func151, Tryz.ntmps151
    go_wp2_with (at_builtin; refine wpList_append_hits rfl _ _ rfl base _ cap hs rfl hown _ [(x, y)] rfl X (by simp; omega) hbase ?_)
    intro v' w1 O1 G1 _
    have HO := hide O1
    have HG := hide G1
    clear O1 G1 hown X
    go_wp2_with fail
    go_ret
    exact ⟨v', rfl, unhide HO, unhide HG⟩
  · go_enter Tryz.func151, Tryz.ntmps151
    go_wp2_with (at_builtin; refine wpList_append_hits rfl _ _ rfl base _ n hs rfl hown _ [(x, y)] rfl X (by simp; omega) hbase ?_)
    intro v' w1 O1 G1 _
    have HO := hide O1
    have HG := hide G1
    clear O1 G1 hown X
    go_wp2_with fail
    go_ret
    exact ⟨v', rfl, unhide HO, unhide HG⟩

set_option maxRecDepth 100000 in
set_option maxHeartbeats 1000000 in
/-- Into nothing. -/
theorem insert_nil (base vb : Nat) (x y : Int) (w : World) (hbase : base ≤ w.heap.size)
    (hv : w.heap[vb]? = some (.cells #[.int .i64 x, .int .i64 y] 66 (0, 0))) (hwf : Wf2 (x, y)) :
    Calls Tryz.prog 151 #[.slice none 0 0, .int .i64 0, .slice (some ⟨vb, 0, none⟩) 1 1] w fun e w' =>
      ∃ r, e = .returned r ∧ w'.ownsRow base 66 2 r (0 + 1) (cells2 ([] ++ [(x, y)])) ∧ w.grownBy w' none := by
  have X := isHits_heap hv hwf
  have O0 : w.ownsRow base 66 2 (.slice none 0 0) 0 (cells2 []) := World.ownsRow_nil _ _ _ _
  have hz : ((0 : Int) == 0) = true := by simp
  clear hv hwf
  go_enter Tryz.func151, Tryz.ntmps151
  go_wp2_with (at_builtin; refine wpList_append_hits rfl _ _ rfl base _ 0 [] rfl O0 _ [(x, y)] rfl X (by simp) hbase ?_)
  intro v' w1 O1 G1 _
  have HO := hide O1
  have HG := hide G1
  clear O1 G1 O0 X
  go_wp2_with fail
  go_ret
  exact ⟨v', rfl, unhide HO, unhide HG⟩

/-- slices.Insert of one hit into a row of the call's own. -/
theorem implInsert (base : Nat) (v : Value) (n at_ vb : Nat) (hs : List (Int × Int)) (x y : Int) (w : World) (hown : w.ownsRow base 66 2 v n (cells2 hs)) (hat : at_ ≤ n) (hn : n < 100000000) (hbase : base ≤ w.heap.size)
    (hvg : v.ownBlock ≠ some vb) (hv : w.heap[vb]? = some (.cells #[.int .i64 x, .int .i64 y] 66 (0, 0))) (hwf : Wf2 (x, y)) :
    Calls Tryz.prog 151 #[v, .int .i64 at_, .slice (some ⟨vb, 0, none⟩) 1 1] w fun e w' =>
      ∃ r, e = .returned r ∧ w'.ownsRow base 66 2 r (n + 1) (cells2 (hs.take at_ ++ (x, y) :: hs.drop at_)) ∧ w.grownBy w' v.ownBlock := by
  have hl2 : hs.length = n := by have := hown.1; rw [cells2_len] at this; omega
  rcases hown.2 with ⟨rfl, rfl⟩ | ⟨g, cap, cur, rfl, -⟩
  · obtain rfl : hs = [] := List.eq_nil_of_length_eq_zero hl2
    obtain rfl : at_ = 0 := by omega
    exact insert_nil base vb x y w hbase hv hwf
  · have hvg' : vb ≠ g := fun e => hvg (by simp [Value.ownBlock, e])
    by_cases he : at_ = n
    · subst he
      have e1 : hs.take at_ ++ (x, y) :: hs.drop at_ = hs ++ [(x, y)] := by
        rw [List.take_of_length_le (by omega), List.drop_eq_nil_of_le (by omega)]
      rw [e1]
      exact insert_end base g at_ cap vb hs x y w hown hn hbase hv hwf
    · by_cases hr : n + 1 ≤ cap
      · exact (insert_shift base g n cap at_ vb hs x y w hown (by omega) hr hvg' hv).mono fun e w' ⟨h1, h2, h3⟩ => ⟨_, h1, h2, h3⟩
      · exact (insert_grow base g n cap at_ vb hs x y w hown (by omega) hr hn hbase hv).mono fun e w' ⟨G, h1, h2, h3⟩ => ⟨_, h1, h2, h3⟩

end Go.Proofs.YtfgadegpdknocaaGreat

namespace Go.Proofs.YtfgadegpdknocaaGreat
open Go.RowKit

theorem ins_same {hs : List (Int × Int)} {h : Int × Int} (he : hs[posOf hs h]? = some h) : ins hs h = hs := by
  rw [ins_pos, if_pos he]
  simp
theorem ins_new {hs : List (Int × Int)} {h : Int × Int} (he : ¬ hs[posOf hs h]? = some h) : ins hs h = hs.take (posOf hs h) ++ h :: hs.drop (posOf hs h) := by
  rw [ins_pos, if_neg he]
  simp

set_option maxRecDepth 100000 in
set_option maxHeartbeats 1000000 in
theorem implKeep_go (base : Nat) (ao : Option Addr) (cap : Nat) (hs : List (Int × Int)) (x y : Int) (k : Nat) (w : World) (hown : w.ownsRow base 66 2 (.slice ao hs.length cap) hs.length (cells2 hs)) (hn : hs.length ≤ 100000) (hk : hs.length ≤ k) (hk2 : k ≤ 100000) (hbase : base ≤ w.heap.size) (hwf : ∀ p ∈ hs, Wf2 p) (hwh : Wf2 (x, y)) :
    Calls Tryz.prog 138 #[.slice ao hs.length cap, .agg #[.int .i64 x, .int .i64 y], .int .i64 k, .func (.func 32) #[] #[]] w fun e w' =>
      ∃ r, e = .returned r ∧ w'.ownsRow base 66 2 r ((ins hs (x, y)).take k).length (cells2 ((ins hs (x, y)).take k)) ∧ Below base w w' := by
  have HI := isHits_row hwf hown
  have B0 : Below w.heap.size w (w.alloc (.cells #[.int .i64 x, .int .i64 y] 66)) := (Below.refl _ _).alloc (Nat.le_refl _) _
  obtain ⟨q0, q1⟩ := new_cells (w := w) (T := 66) (x := .int .i64 x) (y := .int .i64 y)
  have HH : Hid (∀ W, Below w.heap.size w W → IsHits W (.slice ao hs.length cap) hs) := fun W hW => HI.later hW
  have HO : Hid (∀ W, Below w.heap.size w W → W.ownsRow base 66 2 (.slice ao hs.length cap) hs.length (cells2 hs)) := fun W hW => own_below hown hW
  have HWF := hide hwf
  clear hown HI hwf
  go_enter Tryz.func138, Tryz.ntmps138
  go_wp2_with fail
  go_loopw [9] (fun i wr => ∃ j : Nat, j ≤ hs.length ∧ i = .int .i64 j ∧ j + posOf (hs.drop j) (x, y) = posOf hs (x, y) ∧ wr.cell? ⟨w.heap.size, 0, none⟩ = some (.int .i64 x) ∧ wr.cell? ⟨w.heap.size, 1, none⟩ = some (.int .i64 y) ∧ Below w.heap.size w wr) (fun i _ => hs.length - (intOf i).toNat)
  case atStart => exact ⟨0, Nat.zero_le _, rfl, by simp, q0, q1, B0⟩
  case round =>
    obtain ⟨j, hj, rfl, hps, r0, r1, hB⟩ := hrel
    clear q0 q1 B0
    have HPS := hide hps
    have HB := hide hB
    clear hps hB
    go_upto_region 2 with fail
    go_cut [22] from 10 to 24 (fun s22 wx => s22 = .bool (goOn hs (x, y) j) ∧ wx.cell? ⟨w.heap.size, 0, none⟩ = some (.int .i64 x) ∧ wx.cell? ⟨w.heap.size, 1, none⟩ = some (.int .i64 y) ∧ Below w.heap.size w wx)
    case first =>
      by_cases hlt : j < hs.length
      · obtain ⟨x2, y2, hxy⟩ : ∃ x y, hs[j]? = some (x, y) := ⟨hs[j].1, hs[j].2, by simp [hlt]⟩
        obtain ⟨_, _, e1, _, _, _, hcc⟩ := unhide HH wr (unhide HB)
        simp only [Value.slice.injEq] at e1
        obtain ⟨rfl, -, rfl⟩ := e1
        obtain ⟨b, off, rfl, hcd⟩ := hcc (by omega)
        obtain ⟨p1, p2⟩ := hcd j x2 y2 hxy
        have hgo : goOn hs (x, y) j = bet (x2, y2) (x, y) := by simp [goOn, hxy]
        have HG := hide hgo
        have g1 : decide ((j : Int) < (hs.length : Int)) = true := by simp; omega
        have g3 : (j : Int) < (hs.length : Int) := by omega
        have g5 : (0 : Int) ≤ (j : Int) := by omega
        have LB : Hid (∀ W, Calls Tryz.prog 32 #[.agg #[.int .i64 x2, .int .i64 y2], .agg #[.int .i64 x, .int .i64 y]] W fun e w' => e = .returned (.bool (bet (x2, y2) (x, y))) ∧ Below W.heap.size W w') := fun W => implBetter x2 y2 x y W
        clear hxy hgo hcc hcd HPS HWF HH HO
        go_region_held3 (fun w' => Below wr.heap.size wr w' ∧ w'.cell? ⟨b, off + j * 2, none⟩ = some (.int .i64 x2) ∧ w'.cell? ⟨b, off + j * 2 + 1, none⟩ = some (.int .i64 y2) ∧ w'.cell? ⟨w.heap.size, 0, none⟩ = some (.int .i64 x) ∧ w'.cell? ⟨w.heap.size, 1, none⟩ = some (.int .i64 y))
          (first
            | exact ⟨(Below.refl _ _).drew, p1, p2, r0, r1⟩
            | (refine ⟨below_keep2 ?_ hb2, cell_keep hb2 ?_, cell_keep hb2 ?_, cell_keep hb2 ?_, cell_keep hb2 ?_⟩ <;> (first | assumption | (go_split_ands; assumption)))
            | go_keep)
          (first
            | (go_at_call 32; refine (unhide LB _).mono ?_; rintro e w2 ⟨rfl, hb2⟩))
        go_wp2_with fail
        go_meet
        refine ⟨congrArg Value.bool (unhide HG).symm, ?_, ?_, below_keep2 (unhide HB) ?_⟩ <;> (first | assumption | (go_split_ands; assumption))
      · obtain rfl : j = hs.length := by omega
        have hgo : goOn hs (x, y) hs.length = false := by simp [goOn]
        have HG := hide hgo
        have g1 : decide ((hs.length : Int) < (hs.length : Int)) = false := by simp
        clear hgo HPS HWF HH HO
        go_quiet (fail)
        go_wp2_with fail
        go_meet
        exact ⟨congrArg Value.bool (unhide HG).symm, r0, r1, below_drewN (unhide HB) _⟩
    case rest =>
    obtain ⟨rfl, s0, s1, hBc⟩ := hcut
    clear r0 r1 HB
    cases hg : goOn hs (x, y) j with
    | true =>
      obtain ⟨hlt, he⟩ := goOn_true hg
      have HP2 : Hid (j + 1 + posOf (hs.drop (j + 1)) (x, y) = posOf hs (x, y)) := by
        show j + 1 + posOf (hs.drop (j + 1)) (x, y) = posOf hs (x, y)
        have := unhide HPS
        omega
      have HBc := hide hBc
      clear he HPS hg hBc
      go_wp2_with fail
      go_roundw
      case rel => exact ⟨j + 1, by omega, by go_num, unhide HP2, s0, s1, unhide HBc⟩
      case measure => simp [intOf]; omega
    | false =>
      have hpo := goOn_false hg
      have hps := unhide HPS
      rw [hpo, Nat.add_zero] at hps
      have HE := hide hps
      have HBc := hide hBc
      clear hpo hps hg hBc HPS
      go_upto_region 4 with fail
      go_cut [36] from 25 to 35 (fun s36 wx => s36 = .bool (decide (hs[j]? = some (x, y))) ∧ wx.cell? ⟨w.heap.size, 0, none⟩ = some (.int .i64 x) ∧ wx.cell? ⟨w.heap.size, 1, none⟩ = some (.int .i64 y) ∧ Below w.heap.size w wx)
      case first =>
        by_cases hlt : j < hs.length
        · obtain ⟨x2, y2, hxy⟩ : ∃ x y, hs[j]? = some (x, y) := ⟨hs[j].1, hs[j].2, by simp [hlt]⟩
          obtain ⟨_, _, e1, _, _, _, hcc⟩ := unhide HH wc (unhide HBc)
          simp only [Value.slice.injEq] at e1
          obtain ⟨rfl, -, rfl⟩ := e1
          obtain ⟨b, off, rfl, hcd⟩ := hcc (by omega)
          obtain ⟨p1, p2⟩ := hcd j x2 y2 hxy
          have hd : decide (hs[j]? = some (x, y)) = (x2 == x && y2 == y) := by
            rw [hxy]
            by_cases h1 : x2 = x <;> by_cases h2 : y2 = y <;> simp [h1, h2]
          have HG := hide hd
          have g1 : decide ((j : Int) < (hs.length : Int)) = true := by simp; omega
          have g3 : (j : Int) < (hs.length : Int) := by omega
          have g5 : (0 : Int) ≤ (j : Int) := by omega
          have hin := eqIn2 x2 y2 x y
          have hne := eql2 x2 y2 x y
          clear hxy hcc hcd hd HWF HH HO
          go_quiet (fail)
          go_wp2_with fail
          go_meet
          exact ⟨congrArg Value.bool (unhide HG).symm, s0, s1, below_drewN (unhide HBc) _⟩
        · obtain rfl : j = hs.length := by omega
          have hd : decide (hs[hs.length]? = some (x, y)) = false := by simp
          have HG := hide hd
          have g1 : decide ((hs.length : Int) < (hs.length : Int)) = false := by simp
          clear hd HWF HH HO
          go_quiet (fail)
          go_wp2_with fail
          go_meet
          exact ⟨congrArg Value.bool (unhide HG).symm, s0, s1, below_drewN (unhide HBc) _⟩
      case rest =>
      obtain ⟨rfl, u0, u1, hb3⟩ := hcut
      clear s0 s1 HBc
      have hj' := unhide HE
      by_cases hd : hs[j]? = some (x, y)
      · have d1 : decide (hs[j]? = some (x, y)) = true := by simp [hd]
        rw [d1]
        have hi : ins hs (x, y) = hs := ins_same (by rw [← hj']; exact hd)
        have O3 := unhide HO _ hb3
        have e1 : (ins hs (x, y)).take k = hs := by rw [hi, List.take_of_length_le hk]
        have HE1 := hide e1
        have HO3 := hide O3
        have HB3 := hide (hb3.mono hbase)
        clear d1 hd hi O3 e1 hb3 HH HO HWF u0 u1 hj'
        go_wp2_with fail
        go_ret
        refine ⟨_, rfl, ?_, unhide HB3⟩
        rw [unhide HE1]
        exact unhide HO3
      · have d1 : decide (hs[j]? = some (x, y)) = false := by simp [hd]
        rw [d1]
        have hi : ins hs (x, y) = hs.take j ++ (x, y) :: hs.drop j := by
          rw [ins_new (by rw [← hj']; exact hd), ← hj']
        have HI := hide hi
        have O3 := (unhide HO _ hb3).alloc (.cells #[.int .i64 x, .int .i64 y] 66)
        have hne : (Value.slice ao hs.length cap).ownBlock ≠ some wc.heap.size := fun e => by have := ((unhide HO _ hb3).lt _ e).2; omega
        have bs : base ≤ wc.heap.size := Nat.le_trans hbase hb3.size
        have L := implInsert base (.slice ao hs.length cap) hs.length j wc.heap.size hs x y (wc.alloc (.cells #[.int .i64 x, .int .i64 y] 66)) O3 hj (by omega) (by simp; omega) hne (by simpa using heap_alloc_new wc (.cells #[.int .i64 x, .int .i64 y] 66)) hwh
        have b4 : Below base w (wc.alloc (.cells #[.int .i64 x, .int .i64 y] 66)) := (hb3.mono hbase).alloc bs _
        have HB4 := hide b4
        have hlo : ∀ q, (Value.slice ao hs.length cap).ownBlock = some q → base ≤ q := fun q hq => ((unhide HO _ hb3).lt q hq).1
        have HLO := hide hlo
        have HBS := hide bs
        clear d1 hd hi O3 hne hb3 b4 hlo HH HO HWF bs hj'
        go_wp2_with fail
        refine L.mono ?_
        rintro e w5 ⟨r, rfl, O5, G5⟩
        have b5 : Below base w w5 := (unhide HB4).grown G5 (by have := unhide HBS; simp; omega) (fun q hq => unhide HLO q hq)
        rw [← unhide HI] at O5
        have hlen : hs.length + 1 = (ins hs (x, y)).length := by
          have := O5.1
          rw [cells2_len] at this
          omega
        obtain ⟨g, cp, rfl⟩ : ∃ g cp, r = .slice (some ⟨g, 0, none⟩) (hs.length + 1) cp := by
          rcases O5.2 with ⟨_, h0⟩ | ⟨g, cp, cur, rfl, _⟩
          · omega
          · exact ⟨g, cp, rfl⟩
        have hle := own_le O5
        have HB5 := hide b5
        clear L G5 b5 u0 u1 HB4
        by_cases hkk : hs.length = k
        · have O6 := own_take O5 k (by omega)
          have e2 : ((ins hs (x, y)).take k).length = k := by simp; omega
          have HO6 := hide O6
          have HE2 := hide e2
          have c1 : ((k : Nat) : Int) ≤ (cp : Int) := by omega
          have d2 : decide ((k : Int) < (hs.length : Int) + 1) = true := by simp; omega
          clear O5 O6 e2
          go_wp2_with fail
          go_ret
          refine ⟨_, rfl, ?_, unhide HB5⟩
          rw [unhide HE2]
          exact unhide HO6
        · have e1 : (ins hs (x, y)).take k = ins hs (x, y) := List.take_of_length_le (by omega)
          have HE1 := hide e1
          have HLE := hide hlen
          have HO5 := hide O5
          have d2 : decide ((k : Int) < (hs.length : Int) + 1) = false := by simp; omega
          clear O5 e1 hlen
          go_wp2_with fail
          go_ret
          refine ⟨_, rfl, ?_, unhide HB5⟩
          rw [unhide HE1, ← unhide HLE]
          exact unhide HO5

/-- keepHit. -/
theorem implKeep (base : Nat) (v : Value) (hs : List (Int × Int)) (x y : Int) (k : Nat) (w : World) (hown : w.ownsRow base 66 2 v hs.length (cells2 hs)) (hn : hs.length ≤ 100000) (hk : hs.length ≤ k) (hk2 : k ≤ 100000) (hbase : base ≤ w.heap.size) (hwf : ∀ p ∈ hs, Wf2 p) (hwh : Wf2 (x, y)) :
    Calls Tryz.prog 138 #[v, .agg #[.int .i64 x, .int .i64 y], .int .i64 k, .func (.func 32) #[] #[]] w fun e w' =>
      ∃ r, e = .returned r ∧ w'.ownsRow base 66 2 r ((ins hs (x, y)).take k).length (cells2 ((ins hs (x, y)).take k)) ∧ Below base w w' := by
  obtain ⟨ao, cap, rfl⟩ := own_shape hown
  exact implKeep_go base ao cap hs x y k w hown hn hk hk2 hbase hwf hwh

end Go.Proofs.YtfgadegpdknocaaGreat

namespace Go.Proofs.YtfgadegpdknocaaGreat
open Go.RowKit

set_option maxHeartbeats 1000000 in
theorem implFirst (v : Value) (hs : List (Int × Int)) (k : Nat) (w : World) (h : IsHits w v hs) (hn : hs.length ≤ 100000) (hk : k ≤ 100) :
    Calls Tryz.prog 111 #[v, .int .i64 k, .func (.func 32) #[] #[]] w fun e w' =>
      ∃ r, e = .returned r ∧ w'.ownsRow w.heap.size 66 2 r (best k hs).length (cells2 (best k hs)) ∧ Below w.heap.size w w' := by
  obtain ⟨ao, cap, rfl, h1, h2, hwf, hc⟩ := h
  have HWF := hide hwf
  clear hwf h2
  go_enter Tryz.func111, Tryz.ntmps111
  go_wp2_with fail
  go_loopw [7, 12] (fun v i wr => ∃ (j : Nat) (a : Option Addr) (cp : Nat), j ≤ hs.length ∧ i = .int .i64 j ∧ v = .slice a (best k (hs.take j)).length cp ∧ wr.ownsRow w.heap.size 66 2 v (best k (hs.take j)).length (cells2 (best k (hs.take j))) ∧ Below w.heap.size w wr)
    (fun _ i _ => hs.length - (intOf i).toNat)
  case atStart => exact ⟨0, none, 0, Nat.zero_le _, rfl, rfl, World.ownsRow_nil _ _ _ _, Below.refl _ _⟩
  case round =>
    obtain ⟨j, a, cp, hj, rfl, rfl, hown, hB⟩ := hrel
    by_cases hlt : j < hs.length
    · obtain ⟨x, y, hxy⟩ : ∃ x y, hs[j]? = some (x, y) := ⟨hs[j].1, hs[j].2, by simp [hlt]⟩
      obtain ⟨b, off, rfl, hcd⟩ := hc (by omega)
      have c1 := (hB.cell (World.block_lt_of_cell? _ _ (hcd j x y hxy).1)).trans (hcd j x y hxy).1
      have c2 := (hB.cell (World.block_lt_of_cell? _ _ (hcd j x y hxy).2)).trans (hcd j x y hxy).2
      have hw1 : ∀ p ∈ best k (hs.take j), Wf2 p := fun p hp => unhide HWF p (List.mem_of_mem_take (best_mem hp))
      have hl := best_len k (hs.take j)
      have hwh : Wf2 (x, y) := unhide HWF _ (List.mem_of_getElem? hxy)
      have HS := hide (best_snoc k hs j x y hxy)
      have L := implKeep w.heap.size (.slice a (best k (hs.take j)).length cp) (best k (hs.take j)) x y k (wr.alloc (.cells #[.int .i64 x, .int .i64 y] 66)) (hown.alloc _) (by omega) hl (by omega) (by have := hB.size; simp; omega) hw1 hwh
      rw [← unhide HS] at L
      have HB := hide (hB.alloc hB.size (.cells #[.int .i64 x, .int .i64 y] 66))
      have HC := hide hc
      clear hown hB hc hcd hxy hw1 hl hwh HS
      generalize (best k (hs.take j)).length = n at *
      go_wp2_with fail
      refine L.mono ?_
      rintro e w1 ⟨r, rfl, ho, hb⟩
      obtain ⟨a1, cp1, rfl⟩ := own_shape ho
      have HO := hide ho
      have HB1 := hide ((unhide HB).trans hb)
      clear L ho hb HB c1 c2
      go_wp2_with fail
      go_roundw
      case rel => exact ⟨j + 1, a1, cp1, by omega, by go_num, rfl, unhide HO, unhide HB1⟩
      case measure => simp [intOf]; omega
    · obtain rfl : j = hs.length := by omega
      rw [List.take_length] at hown ⊢
      have HO := hide hown
      have HB := hide hB
      clear hown hB hc
      go_wp2_with fail
      go_ret
      exact ⟨_, rfl, unhide HO, unhide HB⟩

end Go.Proofs.YtfgadegpdknocaaGreat
