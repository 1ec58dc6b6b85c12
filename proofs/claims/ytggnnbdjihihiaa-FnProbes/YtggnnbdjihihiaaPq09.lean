/-
  Texts of this proof in one: SpecProbesOf, ImplHitsOf, ImplWanted, ImplHit, HitCopy, HitInsert, ImplKeep, ImplFirst, ImplLoose, ImplBest, ImplSearchIvf, ImplNearest, LogPiecesI.
  Their conditions stand in their theorems.
-/
import Derived.Test.YtggnnbdjihihiaaPq08
import Derived.Test.YtggnnbdjihihiaaPq01
import Derived.Test.YtggnnbdjihihiaaPq02
import Derived.Test.YtggnnbdjihihiaaChecked
import Derived.Test.YtggnnbdjihihiaaPq06
import Derived.Deep.RegionHeld3
import Derived.Test.YtggnnbdjihihiaaPq05
import Derived.Laws.CopyRow
import Derived.Deep.RegionLaw
import Derived.Lib.Overlaps
import Derived.Lib.AppendZerosOnto
import Derived.Test.YtggnnbdjihihiaaPq07

namespace Go.Proofs.Ytggnnbdjihihiaa
open Go.RowKit

theorem l7N (n : Int) (w : World) :
    Calls Try.prog 64 #[.int .i64 n] w fun e w' => e = .returned (.bool (decide (0 ≤ n) && decide (n ≤ 6))) ∧ w' = w := by
  go_enter Try.func64, Try.ntmps64
  go_wp2_with fail
  refine (l1In n 0 6 _).mono ?_
  rintro e w1 ⟨rfl, rfl⟩
  go_wp2_with fail
  go_ret
  exact ⟨rfl, rfl⟩

set_option maxRecDepth 10000 in
set_option maxHeartbeats 1000000 in
theorem specProbesOf (cs : List Value) (x : DIvf) (vq : Value) (q : List Int) (n : Int) (w : World) (h : Lay.tIvf.Reads w cs x) (hq : (Lay.sl Lay.int).Reads w [vq] q) :
    Calls Try.prog 12 #[.agg cs.toArray, vq, .int .i64 n] w fun e w' => ∃ cs', e = .returned (.agg cs'.toArray) ∧ Lay.tIntsResult.Reads w' cs' (probesR x q n) ∧ Below w.heap.size w w' := by
  obtain ⟨ac, dc, al, dl, rfl, R0, R1⟩ := open_Ivf h
  have HB0 : Below w.heap.size w ((w.alloc (.cells #[.slice ac x.centers.length dc, .slice al x.lists.length dl] 27)).alloc (.cells #[.int .i64 0, .slice none 0 0] 32)) := ((Below.refl _ _).alloc (Nat.le_refl _) _).alloc (by simp) _
  have bx : Box w.heap.size #[.slice ac x.centers.length dc, .slice al x.lists.length dl] 27 ((w.alloc (.cells #[.slice ac x.centers.length dc, .slice al x.lists.length dl] 27)).alloc (.cells #[.int .i64 0, .slice none 0 0] 32)) w.heap.size := (newBox (Nat.le_refl _)).grow _
  have bR : Box w.heap.size #[.int .i64 0, .slice none 0 0] 32 ((w.alloc (.cells #[.slice ac x.centers.length dc, .slice al x.lists.length dl] 27)).alloc (.cells #[.int .i64 0, .slice none 0 0] 32)) (w.heap.size + 1) := newBoxAt (by omega) (by simp)
  have hA := ivfAt_box bx (R0.later HB0) (R1.later HB0)
  have HQ := hide (Lay.ints_reads (hq.later HB0))
  obtain ⟨aq, dq, rfl⟩ := open_sl hq
  clear h R0 R1 bx hq
  go_enter Try.func12, Try.ntmps12
  go_wp2_with fail
  generalize (w.alloc (.cells #[.slice ac x.centers.length dc, .slice al x.lists.length dl] 27)).alloc (.cells #[.int .i64 0, .slice none 0 0] 32) = W0 at *
  refine (specFault7 w.heap.size x ac dc al dl W0 hA).mono ?_
  rintro e w1 ⟨rfl, hb⟩
  have HA := hide (hA.later hb)
  replace HQ := hide ((unhide HQ).later hb)
  replace bR := bR.keep hb
  replace HB0 := HB0.trans (hb.mono HB0.size)
  have z0 : w1.cell? ⟨w.heap.size + 1, 0, none⟩ = some (.int .i64 0) := bR.at 0 _ rfl
  have z1 : w1.cell? ⟨w.heap.size + 1, 1, none⟩ = some (.slice none 0 0) := bR.at 1 _ rfl
  have f0 := bR.soft 0
  have f1 := bR.soft 1
  have l0 := bR.lt
  have HB := hide HB0
  have HR := hide bR
  clear hb HB0 bR hA
  by_cases hf : ivfFault x = 0
  · rw [hf]
    go_wp2_with fail
    refine (modelFault _ q _ (unhide HQ)).mono ?_
    rintro e w1 ⟨rfl, rfl⟩
    by_cases hfq : vecFault q = 0
    · rw [hfq]
      go_wp2_with fail
      refine (l7N n _).mono ?_
      rintro e w1 ⟨rfl, rfl⟩
      rw [show (decide (0 ≤ n) && decide (n ≤ 6)) = nB n from rfl]
      cases hk : nB n with
      | false =>
        have HG : Hid (probesR x q n = ⟨3, []⟩) := by
          show probesR x q n = _
          rw [probesR, if_pos hf, if_pos hfq, hk, if_neg (by simp)]
        clear hk hf hfq HA
        go_wp2_with fail
        refine bodyPost_ret (v := .agg #[.int .i64 3, .slice none 0 0]) (by simp [results, Try.results12, go_sem, z0, z1]) rfl ?_
        rw [unhide HG]
        exact ⟨[.int .i64 3, .slice none 0 0], rfl, (own_codeInts (lo := 0) (hi := 0) (by decide)).reads, ((unhide HB).setCell (by simp) _).setCell (by simp) _⟩
      | true =>
        have HG : Hid (probesR x q n = ⟨0, probesI x.centers q n.toNat⟩) := by
          show probesR x q n = _
          rw [probesR, if_pos hf, if_pos hfq, hk, if_pos rfl]
        have hkb : 0 ≤ n ∧ n ≤ 6 := by simpa [nB] using hk
        have hcf := (ivfFault_zero hf).1
        have L := specProbes _ x.centers _ q n.toNat w1 (unhide HA).cens (unhide HQ) hcf hfq (by omega)
        rw [show ((n.toNat : Nat) : Int) = n by omega] at L
        have HL := hide L
        have HW := hide (probe_wf (q := q) (n := n.toNat) (Nat.le_trans (centersFault_zero hcf).1.2 (by decide)))
        have hpn := probe_len x.centers q n.toNat
        have c0 := (unhide HA).c0
        clear hk hf hfq hcf L HA HQ
        generalize probesI x.centers q n.toNat = ps at *
        go_wp2_with fail
        clear z0 z1 f0 f1 l0 c0
        refine (unhide HL).mono ?_
        rintro e w2 ⟨v2, rfl, ho, hb⟩
        have hO := Lay.ownInts (unhide HW) (by omega) ho
        obtain ⟨ao9, cp9, rfl⟩ := open_sl hO.reads
        have hlt := (unhide HR).lt
        have bR := (unhide HR).keep hb
        have z0 : w2.cell? ⟨w.heap.size + 1, 0, none⟩ = some (.int .i64 0) := bR.at 0 _ rfl
        have z1 : w2.cell? ⟨w.heap.size + 1, 1, none⟩ = some (.slice none 0 0) := bR.at 1 _ rfl
        have f0 := bR.soft 0
        have f1 := bR.soft 1
        have l0 := bR.lt
        have HB9 := hide ((unhide HB).trans (hb.mono (unhide HB).size))
        have HO9 := hide hO
        clear hb bR hO ho HR HL
        go_wp2_with fail
        refine bodyPost_ret (v := .agg #[.int .i64 0, .slice ao9 ps.length cp9]) (by simp [results, Try.results12, go_sem, z0, z1]) rfl ?_
        rw [unhide HG]
        have hE : Ext (fun c => c = w.heap.size + 1) w2 ((w2.setCell ⟨w.heap.size + 1, 0, none⟩ (.int .i64 0)).setCell ⟨w.heap.size + 1, 1, none⟩ (.slice ao9 ps.length cp9)) := ((Ext.refl (fun c => c = w.heap.size + 1) _).setCell ⟨w.heap.size + 1, 0, none⟩ _ rfl).setCell ⟨w.heap.size + 1, 1, none⟩ _ rfl
        exact ⟨[.int .i64 0, .slice ao9 ps.length cp9], rfl, (own_ints (by decide) ((unhide HO9).ext hE (fun c h1 _ h3 => by omega))).reads, ((unhide HB9).setCell (by simp) _).setCell (by simp) _⟩
    · have HG : Hid (probesR x q n = ⟨vecFault q, []⟩) := by
        show probesR x q n = _
        rw [probesR, if_pos hf, if_neg hfq]
      have hd : (vecFault q != 0) = true := by simpa using hfq
      clear hf hfq HQ HA
      go_wp2_with fail
      refine bodyPost_ret (v := .agg #[.int .i64 (vecFault q), .slice none 0 0]) (by simp [results, Try.results12, go_sem, z0, z1]) rfl ?_
      rw [unhide HG]
      exact ⟨[.int .i64 (vecFault q), .slice none 0 0], rfl, (own_codeInts (lo := 0) (hi := 0) (vcode_wf q)).reads, ((unhide HB).setCell (by simp) _).setCell (by simp) _⟩
  · have HG : Hid (probesR x q n = ⟨ivfFault x, []⟩) := if_neg hf
    have hd : (ivfFault x != 0) = true := by simpa using hf
    clear hf HA HQ
    go_wp2_with fail
    refine bodyPost_ret (v := .agg #[.int .i64 (ivfFault x), .slice none 0 0]) (by simp [results, Try.results12, go_sem, z0, z1]) rfl ?_
    rw [unhide HG]
    exact ⟨[.int .i64 (ivfFault x), .slice none 0 0], rfl, (own_codeInts (lo := 0) (hi := 0) (ivfFault_wf x)).reads, ((unhide HB).setCell (by simp) _).setCell (by simp) _⟩

end Go.Proofs.Ytggnnbdjihihiaa

namespace Go.Proofs.Ytggnnbdjihihiaa
open Go.RowKit

theorem Ext.drew2 {S : Nat → Prop} {a b : World} (h : Ext S a b) : Ext S a b.drew := ⟨h.os, h.tape, h.output, h.size, h.block⟩

set_option maxRecDepth 100000 in
set_option maxHeartbeats 4000000 in
theorem hitsOf_pos (b off cap : Nat) (xs : List DItem) (a2 : Option Addr) (d2 : Nat) (q : List Int) (w : World) (h : (Lay.sl Lay.tItem).Reads w [.slice (some ⟨b, off, none⟩) xs.length cap] xs) (hq : IsInts w (.slice a2 q.length d2) q) (hbl : b < w.heap.size) (hf : tableFault xs = 0) (hfq : vecFault q = 0) :
    Calls Try.prog 67 #[.slice (some ⟨b, off, none⟩) xs.length cap, .slice a2 q.length d2] w fun e w' => ∃ v, e = .returned v ∧ w'.ownsRow w.heap.size 41 2 v ((hitsL xs q).map pairH).length (cells2 ((hitsL xs q).map pairH)) ∧ Below w.heap.size w w' := by
  obtain ⟨hlen, hall, -⟩ := tableFault_zero hf
  obtain ⟨i0, hi, hz0, hz1, hz2⟩ := info_parts infoAppHit
  have HA := hide hall
  have H := hide h
  have HQ := hide hq
  have HFQ := hide hfq
  clear h hall hf hq hfq
  go_enter Try.func67, Try.ntmps67
  go_wp2_with (at_make; refine wpList_make_own _ rfl _ _ 35 rfl w.heap.size 41 i0 _ 2 Try.underlying35 hi hz0 hz1 .i64 .i64 _ xs.length rfl rfl rfl (by rw [hz2]; omega) (by unfold maxLen; omega) (Nat.le_refl _) ?_)
  intro w1 hown1 hg1
  have hB1 : Below w.heap.size w w1 := (Below.refl _ _).grown hg1 (Nat.le_refl _) (by simp)
  have HG1 := hide (Grow.nil (A := Lay.tHit) hown1)
  have HB1 := hide hB1
  clear hown1 hg1 hB1 hi hz0 hz1 hz2
  go_wp2_with fail
  go_loopw [5, 13] (fun v i wr => ∃ (k : Nat) (rows : List (List Value)) (bls : List (List Nat)), k ≤ xs.length ∧ i = .int .i64 k ∧ Grow Lay.tHit wr w.heap.size 41 v rows (hitsL (xs.take k) q) bls ∧ Below w.heap.size w wr) (fun _ i _ => xs.length - (intOf i).toNat)
  case atStart => exact ⟨0, [], [], Nat.zero_le _, rfl, unhide HG1, unhide HB1⟩
  case round =>
    obtain ⟨k, rows, bls, hk, rfl, hG, hB⟩ := hrel
    clear HG1 HB1
    by_cases hlt : k < xs.length
    · obtain ⟨row, hc, hr⟩ := Lay.row_at (unhide H) hlt
      replace hr := hr.later hB
      obtain ⟨a1, d1, rfl, R1⟩ := open_Item hr
      have c0 : wr.cell? ⟨b, off + k * 2, none⟩ = some (.int .i64 (xs[k]).id) := (hB.cell (p := ⟨b, off + k * 2, none⟩) hbl).trans (hc 0 (by decide))
      have c1 : wr.cell? ⟨b, off + k * 2 + 1, none⟩ = some (.slice a1 (xs[k]).vec.length d1) := (hB.cell (p := ⟨b, off + k * 2 + 1, none⟩) hbl).trans (hc 1 (by decide))
      obtain ⟨hid, hvf⟩ := unhide HA xs[k] (List.getElem_mem hlt)
      have HT : Hid (hitsL (xs.take (k + 1)) q = hitsL (xs.take k) q ++ [hitOf q xs[k]]) := by
        show hitsL (xs.take (k + 1)) q = _
        rw [hitsL, List.take_succ_eq_append_getElem hlt, List.map_append]
        rfl
      have HL : Hid ((hitsL (xs.take k) q).length = k) := by show (hitsL (xs.take k) q).length = k; rw [hitsL, List.length_map, List.length_take]; omega
      clear hc hr
      generalize hx : xs[k] = x at *
      clear hx
      obtain ⟨p1, p2, p3, hv3⟩ := vec3q hvf
      obtain ⟨q1, q2, q3, hq3⟩ := vec3q (unhide HFQ)
      have hbd := score3_bd (unhide HFQ) hvf
      have HWS : Hid ((Lit.int .i64 (score3 q x.vec)).wf = true) := wf_of_bd (by omega)
      have HWI : Hid ((Lit.int .i64 x.id).wf = true) := by
        simp only [idB, Bool.and_eq_true, decide_eq_true_eq] at hid
        exact wf_of_bd (by omega)
      have hbr : b < wr.heap.size := Nat.lt_of_lt_of_le hbl hB.size
      have nb : Below wr.heap.size wr (wr.alloc (.cells #[.int .i64 x.id, .slice a1 x.vec.length d1] 127)) := (Below.refl _ _).alloc (Nat.le_refl _) _
      have bI : Box wr.heap.size #[.int .i64 x.id, .slice a1 x.vec.length d1] 127 (wr.alloc (.cells #[.int .i64 x.id, .slice a1 x.vec.length d1] 127)) wr.heap.size := newBox (Nat.le_refl _)
      have HI := hide ((Lay.ints_reads R1).later nb)
      have HQI := hide (((unhide HQ).later hB).later nb)
      have HS3 : Hid (score3 q x.vec = (q1 - p1) * (q1 - p1) + (q2 - p2) * (q2 - p2) + (q3 - p3) * (q3 - p3)) := by
        show score3 q x.vec = _
        rw [hq3, hv3]
        rfl
      have HV3 := hide hv3
      have HQ3 := hide hq3
      have HVF := hide hvf
      have HOFF : Hid (u5.ownBlock = some wr.heap.size → False) := fun e => by have := (hG.own.lt _ e).2; omega
      have HG := hide (hG.later nb)
      have HB := hide (hB.trans (nb.mono hB.size))
      have HBI := hide bI
      clear R1 hG hB nb bI hid hvf hbd hv3 hq3
      go_wp2_with fail
      clear c0 c1
      have hbI := unhide HBI
      have hhG := unhide HG
      have hI1 := unhide HI
      have hQ1 := unhide HQI
      have hB0 := unhide HB
      clear HBI HG HI HQI HB
      generalize hW0 : wr.alloc (.cells #[.int .i64 x.id, .slice a1 x.vec.length d1] 127) = W0 at *
      clear hW0
      have hfl : ∀ W : World, (Instr.field 43 (.agg #[.int .i64 0, .int .i64 (score3 q x.vec)]) 1).run Try.prog W = .ok (.int .i64 (score3 q x.vec)) W := fun _ => by kernel_rfl
      have hDI : IsInts W0.drew (.slice a1 x.vec.length d1) x.vec := hI1
      have hDQ : IsInts W0.drew (.slice a2 q.length d2) q := hQ1
      have hBx : u5.ownBlock = some wr.heap.size → False := fun e => unhide HOFF e
      have hGD : Grow Lay.tHit W0.drew w.heap.size 41 u5 rows (hitsL (xs.take k) q) bls := hhG.later (below_drawn (Below.refl _ _) 1)
      refine wp_region_noPanic ?_
      refine wp_region_held_drew (S := fun w' => Ext (fun c => u5.ownBlock = some c) W0 w') (by kernel_rfl) (Ext.refl _ _).drew2 (fun hHeld => ?_)
      generalize W0.drew = wD at hHeld hGD hDI hDQ ⊢
      refine wpAnyH_take (i := 0) (oi := { dst := some 17, op := Go.Op.move (Go.Operand.tmp 5), type := 35, pos := "l04_table.go:136", after := #[], guard := none }) (v := ?v0) rfl (by kernel_rfl) (by kernel_rfl) (by kernel_rfl) (fun _ _ _ h => h) (Or.inl ⟨by rfl, ?h0⟩) hHeld ?r0
      case h0 =>
        intro wS hSw
        (try dsimp only at hSw)
        go_simp
        try with_reducible rfl
      case r0 =>
      simp only [Act.put, List.setIfInBounds_toArray, List.set_cons_zero, List.set_cons_succ]
      refine wpAnyH_take (i := 1) (oi := { dst := some 18, op := Go.Op.fieldAddr 127 (Go.Operand.tmp 7) 0, type := 0, pos := "l04_table.go:136", after := #[], guard := none }) (v := ?v1) rfl (by kernel_rfl) (by kernel_rfl) (by kernel_rfl) (fun _ _ _ h => h) (Or.inl ⟨by rfl, ?h1⟩) hHeld ?r1
      case h1 =>
        intro wS hSw
        (try dsimp only at hSw)
        go_simp
        try with_reducible rfl
      case r1 =>
      simp only [Act.put, List.setIfInBounds_toArray, List.set_cons_zero, List.set_cons_succ]
      refine wpAnyH_take (i := 2) (oi := { dst := some 19, op := Go.Op.load 2 (Go.Operand.tmp 18), type := 2, pos := "l04_table.go:136", after := #[{ on := 1, ground := Go.Ground.data }], guard := none }) (v := ?v2) rfl (by kernel_rfl) (by kernel_rfl) (by kernel_rfl) (fun _ _ _ h => h) (Or.inl ⟨by rfl, ?h2⟩) hHeld ?r2
      case h2 =>
        intro wS hSw
        have bx := hbI.ext hSw (fun e => by exact hBx e)
        have y0 := bx.at 0 _ rfl
        have y1 := bx.at 1 _ rfl
        clear bx hSw
        (try dsimp only at hSw)
        go_simp
        try with_reducible rfl
      case r2 =>
      simp only [Act.put, List.setIfInBounds_toArray, List.set_cons_zero, List.set_cons_succ]
      refine wpAnyH_take (i := 3) (oi := { dst := some 20, op := Go.Op.move (Go.Operand.tmp 1), type := 28, pos := "l04_table.go:136", after := #[], guard := none }) (v := ?v3) rfl (by kernel_rfl) (by kernel_rfl) (by kernel_rfl) (fun _ _ _ h => h) (Or.inl ⟨by rfl, ?h3⟩) hHeld ?r3
      case h3 =>
        intro wS hSw
        (try dsimp only at hSw)
        go_simp
        try with_reducible rfl
      case r3 =>
      simp only [Act.put, List.setIfInBounds_toArray, List.set_cons_zero, List.set_cons_succ]
      refine wpAnyH_take (i := 4) (oi := { dst := some 21, op := Go.Op.fieldAddr 127 (Go.Operand.tmp 7) 1, type := 0, pos := "l04_table.go:136", after := #[], guard := none }) (v := ?v4) rfl (by kernel_rfl) (by kernel_rfl) (by kernel_rfl) (fun _ _ _ h => h) (Or.inl ⟨by rfl, ?h4⟩) hHeld ?r4
      case h4 =>
        intro wS hSw
        (try dsimp only at hSw)
        go_simp
        try with_reducible rfl
      case r4 =>
      simp only [Act.put, List.setIfInBounds_toArray, List.set_cons_zero, List.set_cons_succ]
      refine wpAnyH_take (i := 5) (oi := { dst := some 22, op := Go.Op.load 28 (Go.Operand.tmp 21), type := 28, pos := "l04_table.go:136", after := #[{ on := 4, ground := Go.Ground.data }], guard := none }) (v := ?v5) rfl (by kernel_rfl) (by kernel_rfl) (by kernel_rfl) (fun _ _ _ h => h) (Or.inl ⟨by rfl, ?h5⟩) hHeld ?r5
      case h5 =>
        intro wS hSw
        have bx := hbI.ext hSw (fun e => by exact hBx e)
        have y0 := bx.at 0 _ rfl
        have y1 := bx.at 1 _ rfl
        clear bx hSw
        (try dsimp only at hSw)
        go_simp
        try with_reducible rfl
      case r5 =>
      simp only [Act.put, List.setIfInBounds_toArray, List.set_cons_zero, List.set_cons_succ]
      refine wpAnyH_ready (rs := [6]) (by kernel_rfl) (by simp) ?_
      refine AllReadyH.cons (o := { dst := some 23, op := Go.Op.call { callee := Go.Callee.value (Go.Operand.func 114), args := #[Go.Operand.tmp 20, Go.Operand.tmp 22], argTypes := #[28, 28] }, type := 43, pos := "l04_table.go:136", after := #[{ on := 3, ground := Go.Ground.data }, { on := 5, ground := Go.Ground.data }], guard := none }) rfl (fun K hK => ?_) AllReadyH.nil
      go_simp
      go_at_call 114
      have hIa := hDI
      have hQa := hDQ
      have L := implScore_ok (.slice a2 q.length d2) (.slice a1 x.vec.length d1) q1 q2 q3 p1 p2 p3 wD (by rw [← unhide HQ3]; exact hQa) (by rw [← unhide HV3]; exact hIa) (by rw [← unhide HQ3]; exact unhide HFQ) (by rw [← unhide HV3]; exact unhide HVF)
      rw [← unhide HS3] at L
      simp only [intRes] at L
      refine L.mono ?_
      clear L hIa hQa
      rintro e w3 ⟨rfl, hbw⟩
      have hG3 := hGD.later hbw
      have hz3 := hbw.size
      try go_wp2_with fail
      refine hK.out _ _ (hHeld.trans (ext_of_below hbw _)) (fun hHeld => ?_)
      clear hK K
      try simp only [Act.put, List.setIfInBounds_toArray, List.set_cons_zero, List.set_cons_succ]
      refine wpAnyH_take (i := 7) (oi := { dst := some 24, op := Go.Op.field 43 (Go.Operand.tmp 23) 1, type := 2, pos := "l04_table.go:136", after := #[{ on := 6, ground := Go.Ground.data }], guard := none }) (v := ?v7) rfl (by kernel_rfl) (by kernel_rfl) (by kernel_rfl) (fun _ _ _ h => h) (Or.inl ⟨by rfl, ?h7⟩) hHeld ?r7
      case h7 =>
        intro wS hSw
        (try dsimp only at hSw)
        go_simp
        try with_reducible rfl
      case r7 =>
      simp only [Act.put, List.setIfInBounds_toArray, List.set_cons_zero, List.set_cons_succ]
      refine wpAnyH_take (i := 8) (oi := { dst := some 25, op := Go.Op.build 41 #[(0, Go.Operand.tmp 19), (1, Go.Operand.tmp 24)], type := 41, pos := "l04_table.go:136", after := #[{ on := 2, ground := Go.Ground.data }, { on := 7, ground := Go.Ground.data }], guard := none }) (v := ?v8) rfl (by kernel_rfl) (by kernel_rfl) (by kernel_rfl) (fun _ _ _ h => h) (Or.inl ⟨by rfl, ?h8⟩) hHeld ?r8
      case h8 =>
        intro wS hSw
        (try dsimp only at hSw)
        go_simp
        try with_reducible rfl
      case r8 =>
      simp only [Act.put, List.setIfInBounds_toArray, List.set_cons_zero, List.set_cons_succ]
      refine wpAnyH_ready (rs := [9]) (by kernel_rfl) (by simp) ?_
      refine AllReadyH.cons (o := { dst := some 26, op := Go.Op.buildSlice 35 1 #[(0, Go.Operand.tmp 25)], type := 35, pos := "l04_table.go:136", after := #[{ on := 8, ground := Go.Ground.data }], guard := none }) rfl (fun K hK => ?_) AllReadyH.nil
      have hH3 := hHeld
      go_simp
      refine hK.out _ _ (hHeld.trans (ext_of_below ((Below.refl _ _).alloc (Nat.le_refl _) _) _)) (fun hHeld => ?_)
      clear hK K
      try simp only [Act.put, List.setIfInBounds_toArray, List.set_cons_zero, List.set_cons_succ]
      refine wpAnyH_ready (rs := [10]) (by kernel_rfl) (by simp) ?_
      refine AllReadyH.cons (o := { dst := some 27, op := Go.Op.call { callee := Go.Callee.builtin Go.Builtin.append, args := #[Go.Operand.tmp 17, Go.Operand.tmp 26], argTypes := #[35, 35] }, type := 35, pos := "l04_table.go:136", after := #[{ on := 0, ground := Go.Ground.data }, { on := 9, ground := Go.Ground.data }, { on := 6, ground := Go.Ground.chain }], guard := none }) rfl (fun K hK => ?_) AllReadyH.nil
      refine step_append_Hit hG3 (row := [.int .i64 x.id, .int .i64 (score3 q x.vec)]) (x := hitOf q x) (bl := []) (lies_Hit.2 ⟨rfl, rfl, unhide HWI, unhide HWS⟩) (by simp) rfl _ _ rfl rfl rfl (by have := unhide HL; omega) (by have := hH3.size; have := hB0.size; omega) ?_
      rintro g5 cp5 w5 hG5 hb5 hE5 hl5 hz5 -
      refine hK.out _ _ (hH3.trans hE5) (fun hHeld => ?_)
      clear hK K
      try simp only [Act.put, List.setIfInBounds_toArray, List.set_cons_zero, List.set_cons_succ]
      refine wpAnyH_take (i := 11) (oi := { dst := some 5, op := Go.Op.assign (Go.Operand.tmp 27), type := 35, pos := "l04_table.go:136", after := #[{ on := 10, ground := Go.Ground.data }, { on := 10, ground := Go.Ground.chain }, { on := 0, ground := Go.Ground.phase }, { on := 1, ground := Go.Ground.phase }, { on := 2, ground := Go.Ground.phase }, { on := 3, ground := Go.Ground.phase }, { on := 4, ground := Go.Ground.phase }, { on := 5, ground := Go.Ground.phase }, { on := 6, ground := Go.Ground.phase }, { on := 7, ground := Go.Ground.phase }, { on := 8, ground := Go.Ground.phase }, { on := 9, ground := Go.Ground.phase }, { on := 10, ground := Go.Ground.phase }], guard := none }) (v := ?v11) rfl (by kernel_rfl) (by kernel_rfl) (by kernel_rfl) (fun _ _ _ h => h) (Or.inl ⟨by rfl, ?h11⟩) hHeld ?r11
      case h11 =>
        intro wS hSw
        (try dsimp only at hSw)
        go_simp
        try with_reducible rfl
      case r11 =>
      simp only [Act.put, List.setIfInBounds_toArray, List.set_cons_zero, List.set_cons_succ]
      refine wpAnyH_done (by kernel_rfl) ?_ _
      refine NoPanic.normal ?_
      have HG5 := hide hG5
      have HB5 := hide (hB0.trans (hHeld.below hB0.size (fun c hc e => by have := (hhG.own.lt c e).1; omega)))
      clear hHeld hG5 hGD hG3 hhG hI1 hQ1 hB0 hfl
      go_wp2_with fail
      go_roundw
      case rel =>
        have hg := unhide HG5
        rw [← unhide HT] at hg
        exact ⟨k + 1, _, _, by omega, by go_num, hg, unhide HB5⟩
      case measure => simp [intOf]; omega
    · obtain rfl : k = xs.length := by omega
      rw [List.take_length] at hG
      have HG := hide (grow_hits hG).1
      have HB := hide hB
      clear hG hB H
      go_wp2_with fail
      go_ret
      exact ⟨_, rfl, unhide HG, unhide HB⟩

theorem hitsOf_zero (ao : Option Addr) (cap : Nat) (v : Value) (w : World) :
    Calls Try.prog 67 #[.slice ao 0 cap, v] w fun e w' => ∃ v, e = .returned v ∧ w'.ownsRow w.heap.size 41 2 v 0 [] ∧ Below w.heap.size w w' := by
  obtain ⟨i0, hi, hz0, hz1, hz2⟩ := info_parts infoAppHit
  go_enter Try.func67, Try.ntmps67
  go_wp2_with (at_make; refine wpList_make_own _ rfl _ _ 35 rfl w.heap.size 41 i0 _ 2 Try.underlying35 hi hz0 hz1 .i64 .i64 _ 0 rfl rfl rfl (by rw [hz2]; omega) (by unfold maxLen; omega) (Nat.le_refl _) ?_)
  intro w1 hown1 hg1
  have HB1 := hide ((Below.refl w.heap.size w).grown hg1 (Nat.le_refl _) (by simp))
  have HO := hide hown1
  clear hown1 hg1 hi hz0 hz1 hz2
  go_wp2_with fail
  refine wp_loop_rounds 1 ?_
  rw [rounds_succ]
  go_wp2_with fail
  go_ret
  exact ⟨_, rfl, unhide HO, unhide HB1⟩

/-- hitsOf of the program. -/
theorem hitsOfC (v : Value) (xs : List DItem) (vq : Value) (q : List Int) (w : World) (h : (Lay.sl Lay.tItem).Reads w [v] xs) (hq : IsInts w vq q) (hf : tableFault xs = 0) (hfq : vecFault q = 0) :
    Calls Try.prog 67 #[v, vq] w fun e w' => ∃ v, e = .returned v ∧ w'.ownsRow w.heap.size 41 2 v ((hitsL xs q).map pairH).length (cells2 ((hitsL xs q).map pairH)) ∧ Below w.heap.size w w' := by
  obtain ⟨ao, cap, rfl⟩ := open_sl h
  have hvq : ∃ a d, vq = .slice a q.length d := by obtain ⟨a, d, e, -⟩ := hq; exact ⟨a, d, e⟩
  obtain ⟨a2, d2, rfl⟩ := hvq
  by_cases hp : 0 < xs.length
  · obtain ⟨b, off, rfl, hbl⟩ := Lay.sl_addr h hp
    exact hitsOf_pos b off cap xs a2 d2 q w h hq hbl hf hfq
  · obtain rfl : xs = [] := List.eq_nil_of_length_eq_zero (by omega)
    exact hitsOf_zero ao cap _ w

end Go.Proofs.Ytggnnbdjihihiaa

namespace Go.Proofs.Ytggnnbdjihihiaa
open Go.RowKit

theorem implWanted (v : Int) (w : World) :
    Calls Try.prog 66 #[.int .i64 v] w fun e w' => e = .returned (.bool (decide (0 ≤ v) && decide (v ≤ 20))) ∧ w' = w := by
  by_cases h1 : 0 ≤ v
  · have d1 : decide (0 ≤ v) = true := by simpa using h1
    rw [d1]
    cases d2 : decide (v ≤ 20) <;>
    · go_enter Try.func66, Try.ntmps66
      go_wp2_with fail
      go_ret
      exact ⟨rfl, rfl⟩
  · have d1 : decide (0 ≤ v) = false := by simpa using h1
    rw [d1]
    go_enter Try.func66, Try.ntmps66
    go_wp2_with fail
    go_ret
    exact ⟨rfl, rfl⟩

end Go.Proofs.Ytggnnbdjihihiaa

namespace Go.Proofs.Ytggnnbdjihihiaa
open Go.RowKit

set_option maxHeartbeats 400000 in
theorem implIsHit (x y : Int) (w : World) :
    Calls Try.prog 146 #[.agg #[.int .i64 x, .int .i64 y]] w fun e w' => e = .returned (.bool (oneB (x, y))) ∧ Below w.heap.size w w' := by
  have B : ∀ o, Below w.heap.size w (w.alloc o) := fun o => (Below.refl _ _).alloc (Nat.le_refl _) o
  have L1 := implId x
  have ho : oneB (x, y) = ((decide (1 ≤ x) && decide (x ≤ 999)) && (decide (0 ≤ y) && decide (y ≤ 12000000))) := rfl
  rw [ho]
  clear ho
  cases hd : (decide (1 ≤ x) && decide (x ≤ 999)) with
  | false =>
    rw [hd] at L1
    clear hd
    go_enter Try.func146, Try.ntmps146
    go_wp2_with fail
    refine (L1 _).mono ?_
    rintro e w1 ⟨rfl, rfl⟩
    go_wp2_with fail
    go_ret
    exact ⟨rfl, B _⟩
  | true =>
    rw [hd] at L1
    clear hd
    cases d1 : decide (0 ≤ y) with
    | false =>
      go_enter Try.func146, Try.ntmps146
      go_wp2_with fail
      refine (L1 _).mono ?_
      rintro e w1 ⟨rfl, rfl⟩
      go_wp2_with fail
      go_ret
      exact ⟨rfl, B _⟩
    | true =>
      cases d2 : decide (y ≤ 12000000) <;>
      · go_enter Try.func146, Try.ntmps146
        go_wp2_with fail
        refine (L1 _).mono ?_
        rintro e w1 ⟨rfl, rfl⟩
        go_wp2_with fail
        go_ret
        exact ⟨rfl, B _⟩

set_option maxHeartbeats 400000 in
theorem implBetter (x y a b : Int) (w : World) :
    Calls Try.prog 15 #[.agg #[.int .i64 x, .int .i64 y], .agg #[.int .i64 a, .int .i64 b]] w fun e w' => e = .returned (.bool (bet (x, y) (a, b))) ∧ Below w.heap.size w w' := by
  have B : ∀ o o2, Below w.heap.size w ((w.alloc o).alloc o2) := fun o o2 => ((Below.refl _ _).alloc (Nat.le_refl _) o).alloc (by simp) o2
  by_cases h2 : y = b
  · subst h2
    have e : bet (x, y) (a, y) = decide (x < a) := by simp [bet]
    rw [e]
    go_enter Try.func15, Try.ntmps15
    go_wp2_with fail
    go_ret
    exact ⟨rfl, B _ _⟩
  · have e : bet (x, y) (a, b) = decide (y < b) := by simp [bet, h2]
    rw [e]
    go_enter Try.func15, Try.ntmps15
    go_wp2_with fail
    go_ret
    exact ⟨rfl, B _ _⟩

end Go.Proofs.Ytggnnbdjihihiaa

namespace Go.Proofs.Ytggnnbdjihihiaa
open Go.RowKit

theorem run_copy_rowk {P : Program} (w : World) (dT sT ty elem : TypeId) (k g o dLen dCap : Nat) (a : Addr) (sLen sCap : Nat) (cur : Array Value) (t : TypeId) (cs : List Value)
    (hu : P.underlying dT = some (.slice elem)) (hs : (P.info? elem).map (·.size) = some k)
    (hg : w.heap[g]? = some (.cells cur t (0, 0))) (m : Nat) (hm : Nat.min sLen dLen = m) (hn : cs.length = m * k)
    (hsrc : ∀ j v, cs[j]? = some v → w.cell? (a.add j) = some v) (hfit : o + cs.length ≤ cur.size) (h1 : ∀ v ∈ cs, v.oneCell' = true) :
    (Builtin.copy_ #[dT, sT] ty #[.slice (some ⟨g, o, none⟩) dLen dCap, .slice (some a) sLen sCap]).run P w =
      .ok (goInt m) (w.setRow g (cur.toList.take o ++ cs ++ cur.toList.drop (o + cs.length)).toArray) := by
  have hl := run_loadCells_list (P := P) w a cs hsrc
  have hst := run_storeCells_at P g o t cs 0 cur w hg (by simpa using hfit) h1
  cases hq : P.info? elem with
  | none => simp [hq] at hs
  | some i =>
    have hi : i.size = k := by simpa [hq] using hs
    simp [Builtin.copy_, run_underlying hu, Builtin.lenOf, Builtin.firstCells, sizeOf, typeInfo, hq, hi, hm, ← hn, hl, hst]

/-- The row behind a copy. -/
def laidOver (cur : List Value) (o : Nat) (cs : List Value) : List Value := cur.take o ++ cs ++ cur.drop (o + cs.length)

theorem run_copy_hits (w : World) (ty g o dLen dCap : Nat) (a : Addr) (sLen sCap : Nat) (cur : List Value) (t : TypeId) (cs : List Value)
    (hg : w.heap[g]? = some (.cells cur.toArray t (0, 0))) (m : Nat) (hm : Nat.min sLen dLen = m) (hn : cs.length = m * 2)
    (hsrc : ∀ j v, cs[j]? = some v → w.cell? (a.add j) = some v) (hfit : o + cs.length ≤ cur.length) (h1 : ∀ v ∈ cs, v.oneCell' = true) :
    ∃ w', (Builtin.copy_ #[35, 35] ty #[.slice (some ⟨g, o, none⟩) dLen dCap, .slice (some a) sLen sCap]).run Try.prog w = .ok (goInt m) w' ∧
      w'.heap[g]? = some (.cells (laidOver cur o cs).toArray t (0, 0)) ∧ w.grownBy w' (some g) := by
  obtain ⟨i0, hi, hz0, hz1, hz2⟩ := info_parts infoHit
  refine ⟨_, run_copy_rowk w 35 35 ty 41 2 g o dLen dCap a sLen sCap cur.toArray t cs Try.underlying35 (by rw [hi]; simp [hz1]) hg m hm hn hsrc (by simpa using hfit) h1, ?_, ?_⟩
  · simpa [laidOver] using setRow_heap w g _ _ t _ hg
  · exact ⟨rfl, rfl, rfl, by simp, fun k _ hk => setRow_other w g k _ (fun e => hk (by rw [e]))⟩

theorem wpList_copy_hits {w : World} {ops : Array Oper} {rest : List Oper} {o : Oper} {a : Act} {Q : Exit → Act → World → Prop} (hgd : o.guard = none) (d s : Operand)
    (ho : o.op = .call { callee := .builtin .copy, args := #[d, s], argTypes := #[35, 35] })
    (g off dLen dCap : Nat) (ad : Addr) (sLen sCap : Nat) (hd : a.eval d = .slice (some ⟨g, off, none⟩) dLen dCap) (hs : a.eval s = .slice (some ad) sLen sCap)
    (cur : List Value) (t : TypeId) (cs : List Value) (hg : w.heap[g]? = some (.cells cur.toArray t (0, 0))) (m : Nat) (hm : Nat.min sLen dLen = m) (hn : cs.length = m * 2)
    (hsrc : ∀ j v, cs[j]? = some v → w.cell? (ad.add j) = some v) (hfit : off + cs.length ≤ cur.length) (h1 : ∀ v ∈ cs, v.oneCell' = true)
    (h : ∀ w', w'.heap[g]? = some (.cells (laidOver cur off cs).toArray t (0, 0)) → w.grownBy w' (some g) → wpList Try.prog ops Q rest (a.put o.dst (goInt m)) w') :
    wpList Try.prog ops Q (o :: rest) a w := by
  refine wpList_plain hgd fun K hK => ?_
  obtain ⟨w', hr, h2, h3⟩ := run_copy_hits w o.type g off dLen dCap ad sLen sCap cur t cs hg m hm hn hsrc hfit h1
  unfold Oper.wp execOp
  simp only [ho, resolve, invoke, builtin, Sem.run_bind, Sem.run_pure, Result.andThen_ok, List.map_toArray, List.map_cons, List.map_nil, hd, hs, hr]
  exact hK _ _ (h w' h2 h3)

theorem step_copy_hits {ops : Array Oper} {o : Oper} {a : Act} {w : World} {K : Act → World → Prop} {Q : Exit → Act → World → Prop} {E : Prop} (hgd : o.guard = none) (d s : Operand)
    (ho : o.op = .call { callee := .builtin .copy, args := #[d, s], argTypes := #[35, 35] })
    (g off dLen dCap : Nat) (ad : Addr) (sLen sCap : Nat) (hd : a.eval d = .slice (some ⟨g, off, none⟩) dLen dCap) (hs : a.eval s = .slice (some ad) sLen sCap)
    (cur : List Value) (t : TypeId) (cs : List Value) (hg : w.heap[g]? = some (.cells cur.toArray t (0, 0))) (m : Nat) (hm : Nat.min sLen dLen = m) (hn : cs.length = m * 2)
    (hsrc : ∀ j v, cs[j]? = some v → w.cell? (ad.add j) = some v) (hfit : off + cs.length ≤ cur.length) (h1 : ∀ v ∈ cs, v.oneCell' = true)
    (h : ∀ w', w'.heap[g]? = some (.cells (laidOver cur off cs).toArray t (0, 0)) → w.grownBy w' (some g) → K (a.put o.dst (goInt m)) w') :
    if Region.wanted o (yielded ops a.tmps) = true then Oper.wp Try.prog o a w K Q else E := by
  have hw : Region.wanted o (yielded ops a.tmps) = true := by simp [Region.wanted, hgd]
  rw [if_pos hw]
  obtain ⟨w', hr, h2, h3⟩ := run_copy_hits w o.type g off dLen dCap ad sLen sCap cur t cs hg m hm hn hsrc hfit h1
  unfold Oper.wp
  simp [execOp, ho, resolve, invoke, builtin, hd, hs, hr, Result.andThen]
  exact h w' h2 h3

theorem cells2_drop (hs : List (Int × Int)) (k : Nat) : (cells2 hs).drop (k * 2) = cells2 (hs.drop k) := by
  induction hs generalizing k with
  | nil => simp [cells2]
  | cons h r ih =>
    cases k with
    | zero => simp [cells2]
    | succ k => simp [cells2, ih, Nat.add_mul]

/-- A hit put into the midst of a row: what stood from there on is moved, then the hit is laid. -/
theorem shift_row {cur : List Value} {hs : List (Int × Int)} {n at_ cap : Nat} (x y : Int) (hl : hs.length = n) (hcur : cur.length = cap * 2) (ht : cur.take (n * 2) = cells2 hs) (hat : at_ < n) (hroom : n + 1 ≤ cap) :
    (laidOver (laidOver cur ((at_ + 1) * 2) (cells2 (hs.drop at_))) (at_ * 2) [.int .i64 x, .int .i64 y]).length = cap * 2 ∧
    (laidOver (laidOver cur ((at_ + 1) * 2) (cells2 (hs.drop at_))) (at_ * 2) [.int .i64 x, .int .i64 y]).take ((n + 1) * 2) = cells2 (hs.take at_ ++ (x, y) :: hs.drop at_) := by
  have e1 : (laidOver cur ((at_ + 1) * 2) (cells2 (hs.drop at_))).take (at_ * 2) = cells2 (hs.take at_) := by
    unfold laidOver
    rw [List.append_assoc, List.take_append_of_le_length (by simp; omega), List.take_take, ← cells2_take, ← ht, List.take_take]
    congr 1
    omega
  have e2 : (laidOver cur ((at_ + 1) * 2) (cells2 (hs.drop at_))).drop (at_ * 2 + 2) = cells2 (hs.drop at_) ++ cur.drop ((at_ + 1) * 2 + (cells2 (hs.drop at_)).length) := by
    unfold laidOver
    have : (cur.take ((at_ + 1) * 2)).length = at_ * 2 + 2 := by simp; omega
    rw [List.append_assoc, ← this, List.drop_left]
  have e3 : laidOver (laidOver cur ((at_ + 1) * 2) (cells2 (hs.drop at_))) (at_ * 2) [.int .i64 x, .int .i64 y] = cells2 (hs.take at_ ++ (x, y) :: hs.drop at_) ++ cur.drop ((at_ + 1) * 2 + (cells2 (hs.drop at_)).length) := by
    rw [laidOver, e1]
    simp only [List.length_cons, List.length_nil, Nat.zero_add, e2, cells2_app, cells2]
    simp
  have e4 : (cells2 (hs.take at_ ++ (x, y) :: hs.drop at_)).length = (n + 1) * 2 := by
    rw [cells2_len]
    simp
    omega
  rw [e3]
  constructor
  · rw [List.length_append, e4, cells2_len]
    simp
    omega
  · rw [← e4, List.take_left]

theorem laidOver_len {cur : List Value} {o : Nat} {cs : List Value} (h : o + cs.length ≤ cur.length) : (laidOver cur o cs).length = cur.length := by
  unfold laidOver
  simp
  omega

/-- A hit put into a new row behind what stood ahead of it, then what stood from there on. -/
theorem grow_row {row : List Value} {hs : List (Int × Int)} {n at_ cap : Nat} (x y : Int) (hl : hs.length = n) (hrow : row.length = cap * 2) (ht : row.take (at_ * 2) = cells2 (hs.take at_)) (hat : at_ < n) (hroom : n + 1 ≤ cap) :
    (laidOver (laidOver row (at_ * 2) [.int .i64 x, .int .i64 y]) ((at_ + 1) * 2) (cells2 (hs.drop at_))).length = cap * 2 ∧
    (laidOver (laidOver row (at_ * 2) [.int .i64 x, .int .i64 y]) ((at_ + 1) * 2) (cells2 (hs.drop at_))).take ((n + 1) * 2) = cells2 (hs.take at_ ++ (x, y) :: hs.drop at_) := by
  have hcl : (cells2 (hs.take at_)).length = at_ * 2 := by rw [cells2_len]; simp; omega
  have e1 : (laidOver row (at_ * 2) [.int .i64 x, .int .i64 y]).take ((at_ + 1) * 2) = cells2 (hs.take at_) ++ [.int .i64 x, .int .i64 y] := by
    unfold laidOver
    rw [ht]
    have : (at_ + 1) * 2 = (cells2 (hs.take at_) ++ [Value.int .i64 x, Value.int .i64 y]).length := by rw [List.length_append, hcl]; simp; omega
    rw [this, List.take_left]
  have e3 : laidOver (laidOver row (at_ * 2) [.int .i64 x, .int .i64 y]) ((at_ + 1) * 2) (cells2 (hs.drop at_)) = cells2 (hs.take at_ ++ (x, y) :: hs.drop at_) ++ (laidOver row (at_ * 2) [.int .i64 x, .int .i64 y]).drop ((at_ + 1) * 2 + (cells2 (hs.drop at_)).length) := by
    rw [laidOver, e1]
    simp only [cells2_app, cells2]
    simp
  have e4 : (cells2 (hs.take at_ ++ (x, y) :: hs.drop at_)).length = (n + 1) * 2 := by
    rw [cells2_len]
    simp
    omega
  have e5 : (laidOver row (at_ * 2) [.int .i64 x, .int .i64 y]).length = cap * 2 := by rw [laidOver_len (by simp; omega), hrow]
  rw [e3]
  constructor
  · rw [List.length_append, e4, List.length_drop, e5, cells2_len]
    simp
    omega
  · rw [← e4, List.take_left]

end Go.Proofs.Ytggnnbdjihihiaa

namespace Go.Proofs.Ytggnnbdjihihiaa
open Go.RowKit

theorem grown_undrew {w w' : World} {r : Option Nat} (h : w.drew.grownBy w' r) : w.grownBy w' r := ⟨h.os, h.tape, h.output, h.size, h.block⟩

theorem own_le' {w : World} {base T sz g n cap : Nat} {xs : List Value} (h : w.ownsRow base T sz (.slice (some ⟨g, 0, none⟩) n cap) n xs) : n ≤ cap := by
  rcases h.2 with ⟨h0, _⟩ | ⟨g, c, cur, h0, _, _, h1, _⟩
  · simp at h0
  · simp only [Value.slice.injEq] at h0
    obtain ⟨-, -, rfl⟩ := h0
    exact h1

theorem cells2_of_heap {w : World} {vb : Nat} {x y : Value} {T : TypeId} (h : w.heap[vb]? = some (.cells #[x, y] T (0, 0))) : w.cell? ⟨vb, 0, none⟩ = some x ∧ w.cell? ⟨vb, 1, none⟩ = some y := by
  constructor <;> simp [World.cell?, h]

theorem news_of_heap {w : World} {vb : Nat} {x y : Int} {T : TypeId} (h : w.heap[vb]? = some (.cells #[.int .i64 x, .int .i64 y] T (0, 0))) :
    ∀ j v, [Value.int .i64 x, Value.int .i64 y][j]? = some v → w.cell? ((⟨vb, 0, none⟩ : Addr).add j) = some v := by
  intro j v hj
  rw [Addr.add_lit, Nat.zero_add]
  match j, hj with
  | 0, hj =>
    simp at hj
    subst hj
    exact (cells2_of_heap h).1
  | 1, hj =>
    simp at hj
    subst hj
    exact (cells2_of_heap h).2

theorem news_of_row {w : World} {g n at_ : Nat} {cur : List Value} {hs : List (Int × Int)} {T : TypeId} (hg : w.heap[g]? = some (.cells cur.toArray T (0, 0))) (ht : cur.take (n * 2) = cells2 hs) (o : Nat) (ho : o = at_ * 2) :
    ∀ j v, (cells2 (hs.drop at_))[j]? = some v → w.cell? ((⟨g, o, none⟩ : Addr).add j) = some v := by
  intro j v hj
  rw [Addr.add_lit]
  rw [← cells2_drop, List.getElem?_drop, ← ht, List.getElem?_take] at hj
  split at hj
  · rw [ho]
    simp [World.cell?, hg, hj]
  · cases hj

set_option maxRecDepth 100000 in
set_option maxHeartbeats 1000000 in
/-- There is room, and the place is not the end. -/
theorem insert_shift (base g n cap at_ vb : Nat) (hs : List (Int × Int)) (x y : Int) (w : World) (hown : w.ownsRow base 41 2 (.slice (some ⟨g, 0, none⟩) n cap) n (cells2 hs)) (hat : at_ < n) (hroom : n + 1 ≤ cap)
    (hvg : vb ≠ g) (hv : w.heap[vb]? = some (.cells #[.int .i64 x, .int .i64 y] 41 (0, 0))) :
    Calls Try.prog 156 #[.slice (some ⟨g, 0, none⟩) n cap, .int .i64 at_, .slice (some ⟨vb, 0, none⟩) 1 1] w fun e w' =>
      e = .returned (.slice (some ⟨g, 0, none⟩) (n + 1) cap) ∧ w'.ownsRow base 41 2 (.slice (some ⟨g, 0, none⟩) (n + 1) cap) (n + 1) (cells2 (hs.take at_ ++ (x, y) :: hs.drop at_)) ∧ w.grownBy w' (some g) := by
  have hl2 : hs.length = n := by have := hown.1; rw [cells2_len] at this; omega
  obtain ⟨cur, hbg, hg, hcm, hcs, ht⟩ : ∃ cur : List Value, base ≤ g ∧ w.heap[g]? = some (.cells cur.toArray 41 (0, 0)) ∧ cap ≤ maxLen ∧ cur.length = cap * 2 ∧ cur.take (n * 2) = cells2 hs := by
    rcases hown.2 with ⟨h', _⟩ | ⟨g', cap', cur, h', hb, hg, hnc, hcm, hcs, htake⟩
    · simp at h'
    · simp only [Value.slice.injEq, Option.some.injEq, Addr.mk.injEq, and_true, true_and] at h'
      obtain ⟨rfl, rfl⟩ := h'
      exact ⟨cur.toList, hb, by simpa using hg, hcm, by simpa using hcs, htake⟩
  have R := shift_row x y hl2 hcs ht hat hroom
  have HR := hide R
  have HT := hide ht
  have HCS := hide hcs
  have HG := hide hg
  have HV := hide hv
  have hov : ∀ lb cb o, (callFunc 162 #[.slice (some ⟨vb, 0, none⟩) 1 1, .slice (some ⟨g, o, none⟩) lb cb]).run Try.prog w = .ok (.value (.bool false)) w := fun lb cb o => by
    rw [run_callFunc_extern Try.func162 (by kernel_rfl) (by kernel_rfl) (by kernel_rfl) (e := Extern.SlicesOverlaps.overlaps #[35, 35] #[4]) (by kernel_rfl),
      Lib.run_overlaps_apart w 35 4 41 Try.underlying35 2 Try.sizeOf41 ⟨vb, 0, none⟩ ⟨g, o, none⟩ 1 1 lb cb hvg 41 41 2 (cap * 2) (by simp [World.shape?, hv]) (by simp [World.shape?, hg, hcs]) (by omega) (by simp [World.frozen?, hv]) (by simp [World.frozen?, hv])]
    rfl
  have hbd : (cap : Int) ≤ 9223372036854775807 := by unfold maxLen at hcm; omega
  have hz2 : ¬ ((at_ : Int) = (n : Int)) := by omega
  have hw1 : IntKind.i64.wrap ((at_ : Int) + 1) = (at_ : Int) + 1 := by rw [IntKind.wrap_i64]; omega
  have hb1 : (0 : Int) ≤ (at_ : Int) + 1 := by omega
  have htn : ((at_ : Int) + 1).toNat = at_ + 1 := by omega
  have hb2 : ¬ (cap = at_ + 1) := by omega
  have hb4 : ¬ (cap = at_) := by omega
  have hb3 : (at_ : Int) ≤ (n : Int) + 1 := by omega
  have hin : (at_ : Int) ≤ (n : Int) := by omega
  have HCM := hcm
  clear R ht hcs hg hv hown hcm
  go_enter Try.func156, Try.ntmps156
  go_wp2_with (simp only [hov])
  have m1 : Nat.min (n + 1 - at_) (n + 1 - (at_ + 1)) = n - at_ := by simp only [Nat.min_def]; split <;> omega
  have m2 : (cells2 (hs.drop at_)).length = (n - at_) * 2 := by rw [cells2_len, List.length_drop, hl2]
  have m3 : (at_ + 1) * 2 + (cells2 (hs.drop at_)).length ≤ cur.length := by rw [m2, unhide HCS]; omega
  have M1 := hide m1
  have M2 := hide m2
  have M3 := hide m3
  clear m1 m2 m3
  go_region_law (first
    | (refine step_copy_hits rfl _ _ rfl g ((at_ + 1) * 2) (n + 1 - (at_ + 1)) (cap - (at_ + 1)) ⟨g, at_ * 2, none⟩ (n + 1 - at_) (cap - at_) (by simp [Act.eval, Act.put]) (by simp [Act.eval, Act.put]) cur 41 (cells2 (hs.drop at_)) (unhide HG) (n - at_) (unhide M1) (unhide M2) (news_of_row (unhide HG) (unhide HT) _ rfl) (unhide M3) (cells2_one _) ?_; intro w1 G1 B1; have GG1 := hide G1; have BB1 := hide (show w.grownBy w1 (some g) from ⟨B1.os, B1.tape, B1.output, B1.size, B1.block⟩); clear G1 B1))
  have V1 : w1.heap[vb]? = some (.cells #[.int .i64 x, .int .i64 y] 41 (0, 0)) := ((unhide BB1).block vb (lt_of_block (unhide HV)) (by simpa using hvg)).trans (unhide HV)
  have m4 : at_ * 2 + [Value.int .i64 x, Value.int .i64 y].length ≤ (laidOver cur ((at_ + 1) * 2) (cells2 (hs.drop at_))).length := by
    rw [laidOver_len (unhide M3), unhide HCS]
    simp
    omega
  have m5 : Nat.min 1 (n + 1 - at_) = 1 := by simp only [Nat.min_def]; split <;> omega
  have HV1 := hide V1
  have M4 := hide m4
  have M5 := hide m5
  clear V1 m4 m5
  obtain ⟨w2, hcp, G2, B2⟩ := run_copy_hits w1 3 g (at_ * 2) (n + 1 - at_) (cap - at_) ⟨vb, 0, none⟩ 1 1 _ 41 [Value.int .i64 x, Value.int .i64 y] (unhide GG1) 1 (unhide M5) rfl (news_of_heap (unhide HV1)) (unhide M4) (by simp [Value.oneCell'])
  have GG2 := hide G2
  have BB2 := hide B2
  clear G2 B2
  go_wp2_with (simp only [hcp])
  go_ret
  have e4 : (cells2 (hs.take at_ ++ (x, y) :: hs.drop at_)).length = (n + 1) * 2 := by
    rw [cells2_len]
    simp
    omega
  exact ⟨rfl, ⟨e4, .inr ⟨g, cap, _, rfl, hbg, unhide GG2, hroom, HCM, by simpa using (unhide HR).1, by simpa using (unhide HR).2⟩⟩, grown_trans (unhide BB1) (unhide BB2)⟩

/-- append of zero hits onto a row's head, where there is no room: a new row that holds that head. -/
theorem run_append_zeros (w : World) (g at_ k cap : Nat) (hs : List (Int × Int)) (hl : at_ ≤ hs.length) (hc : ∀ j v, (cells2 hs)[j]? = some v → w.cell? ((⟨g, 0, none⟩ : Addr).add j) = some v) (h0 : 0 < k) (hfull : cap < at_ + k) (hbig : at_ + k ≤ 100000000) (ty : TypeId) :
    ∃ G row w1, (Builtin.append_ #[35, 3] ty #[.slice (some ⟨g, 0, none⟩) at_ cap, .int .i64 k]).run Try.prog w = .ok (.slice (some ⟨w.heap.size, 0, none⟩) (at_ + k) G) w1 ∧
      w1.heap[w.heap.size]? = some (.cells (row : List Value).toArray 41 (0, 0)) ∧ row.length = G * 2 ∧ row.take (at_ * 2) = cells2 (hs.take at_) ∧ at_ + k ≤ G ∧ G ≤ maxLen ∧ w.grownBy w1 none ∧ w1.heap.size = w.heap.size + 1 := by
  obtain ⟨i0, hi, hz0, hz1, hz2⟩ := info_parts infoHit
  have hlen : (cells2 (hs.take at_)).length = at_ * 2 := by rw [cells2_len]; simp; omega
  have hold : (Builtin.firstCells i0.size at_ (.slice (some ⟨g, 0, none⟩) at_ cap)).run Try.prog w.drew = .ok (cells2 (hs.take at_)).toArray w.drew := by
    rw [hz1]
    refine run_firstCells_some w.drew 2 at_ ⟨g, 0, none⟩ at_ cap (cells2 (hs.take at_)) hlen (fun j v hj => ?_)
    rw [← cells2_take, List.getElem?_take] at hj
    split at hj
    · exact hc j v hj
    · cases hj
  have hr := Lib.run_append_grow_zeros w 35 3 ty 41 i0 _ .i64 .i64 Try.underlying35 Try.underlying3 hi hz0 (some ⟨g, 0, none⟩) at_ cap (cells2 (hs.take at_)) hold k h0 (by omega) hfull (by omega) (by rw [hz2]; omega) (by rw [hz2]; exact growslice_fits hfull (by omega))
  have hge := grownCap_ge w (at_ + k) cap 41
  have hle := grownCap_le_maxLen w (at_ + k) cap 41 (by unfold maxLen; omega)
  generalize grownCap w (at_ + k) cap 41 = G at *
  have hzl : ∀ q, (Builtin.zeroCells (Value.agg #[.int .i64 0, .int .i64 0]).cells q).size = q * 2 := fun q => by rw [size_zeroCells]; rfl
  have hA : ∀ arr : Array Value, arr = (cells2 (hs.take at_)).toArray ++ Builtin.zeroCells (Value.agg #[.int .i64 0, .int .i64 0]).cells k ++ Builtin.zeroCells (Value.agg #[.int .i64 0, .int .i64 0]).cells (G - (at_ + k)) → arr.toList.length = G * 2 ∧ arr.toList.take (at_ * 2) = cells2 (hs.take at_) := by
    rintro arr rfl
    refine ⟨?_, ?_⟩
    · rw [Array.length_toList, Array.size_append, Array.size_append, hzl, hzl, List.size_toArray, hlen]
      omega
    · rw [Array.toList_append, Array.toList_append, List.append_assoc, ← hlen]
      exact List.take_left
  obtain ⟨h1, h2⟩ := hA _ rfl
  refine ⟨G, ((cells2 (hs.take at_)).toArray ++ Builtin.zeroCells (Value.agg #[.int .i64 0, .int .i64 0]).cells k ++ Builtin.zeroCells (Value.agg #[.int .i64 0, .int .i64 0]).cells (G - (at_ + k))).toList, _, hr, ?_, h1, h2, hge, hle, ⟨rfl, rfl, rfl, by simp, fun _ hq _ => heap_alloc_old w.drew _ hq⟩, by simp⟩
  rw [Array.toArray_toList]
  exact heap_alloc_new w.drew _

set_option maxRecDepth 100000 in
set_option maxHeartbeats 1000000 in
/-- There is no room, and the place is not the end: a new row. -/
theorem insert_grow (base g n cap at_ vb : Nat) (hs : List (Int × Int)) (x y : Int) (w : World) (hown : w.ownsRow base 41 2 (.slice (some ⟨g, 0, none⟩) n cap) n (cells2 hs)) (hat : at_ < n) (hroom : ¬ n + 1 ≤ cap) (hn : n < 100000000) (hbase : base ≤ w.heap.size)
    (hv : w.heap[vb]? = some (.cells #[.int .i64 x, .int .i64 y] 41 (0, 0))) :
    Calls Try.prog 156 #[.slice (some ⟨g, 0, none⟩) n cap, .int .i64 at_, .slice (some ⟨vb, 0, none⟩) 1 1] w fun e w' =>
      ∃ G, e = .returned (.slice (some ⟨w.heap.size, 0, none⟩) (n + 1) G) ∧ w'.ownsRow base 41 2 (.slice (some ⟨w.heap.size, 0, none⟩) (n + 1) G) (n + 1) (cells2 (hs.take at_ ++ (x, y) :: hs.drop at_)) ∧ w.grownBy w' (some g) := by
  have hl2 : hs.length = n := by have := hown.1; rw [cells2_len] at this; omega
  have hcells := hown.cells (g := g) rfl
  have hnc := own_le' hown
  have hkk : (n : Int) + 1 - (at_ : Int) = ((n + 1 - at_ : Nat) : Int) := by omega
  obtain ⟨cur, hg, ht⟩ : ∃ cur : List Value, w.heap[g]? = some (.cells cur.toArray 41 (0, 0)) ∧ cur.take (n * 2) = cells2 hs := by
    rcases hown.2 with ⟨h', _⟩ | ⟨g', cap', cur, h', hb, hg, hnc, hcm, hcs, htake⟩
    · simp at h'
    · simp only [Value.slice.injEq, Option.some.injEq, Addr.mk.injEq, and_true, true_and] at h'
      obtain ⟨rfl, rfl⟩ := h'
      exact ⟨cur.toList, by simpa using hg, htake⟩
  have hgw : g < w.heap.size := lt_of_block hg
  have hvw : vb < w.heap.size := lt_of_block hv
  have AZ := fun ty => run_append_zeros w g at_ (n + 1 - at_) cap hs (by omega) hcells (by omega) (by omega) (by omega) ty
  rw [show at_ + (n + 1 - at_) = n + 1 by omega] at AZ
  have HAZ := hide AZ
  have HG := hide hg
  have HT := hide ht
  have HV := hide hv
  have hz2 : ¬ ((at_ : Int) = (n : Int)) := by omega
  have hz3 : (cap : Int) < (n : Int) + 1 := by omega
  have hw1 : IntKind.i64.wrap ((at_ : Int) + 1) = (at_ : Int) + 1 := by rw [IntKind.wrap_i64]; omega
  have hb1 : (0 : Int) ≤ (at_ : Int) + 1 := by omega
  have htn : ((at_ : Int) + 1).toNat = at_ + 1 := by omega
  have hb4 : ¬ (cap = at_) := by omega
  have hin : (at_ : Int) ≤ (n : Int) := by omega
  have hac : (at_ : Int) ≤ (cap : Int) := by omega
  have hw2 : IntKind.i64.wrap ((n : Int) + 1 - (at_ : Int)) = (n : Int) + 1 - (at_ : Int) := by rw [IntKind.wrap_i64]; omega
  have HKK := hide hkk
  clear AZ hg ht hv hown hcells hkk
  go_enter Try.func156, Try.ntmps156
  obtain ⟨G, row, w1, hr, hrow, hrl, hrt, hG1, hG2, hgr, hsz⟩ := unhide HAZ 35
  rw [← unhide HKK] at hr
  have R := grow_row x y hl2 hrl hrt hat hG1
  have HR := hide R
  have m1 : at_ * 2 + [Value.int .i64 x, Value.int .i64 y].length ≤ row.length := by rw [hrl]; simp; omega
  have m5 : Nat.min 1 (n + 1 - at_) = 1 := by simp only [Nat.min_def]; split <;> omega
  have V1 : w1.heap[vb]? = some (.cells #[.int .i64 x, .int .i64 y] 41 (0, 0)) := (hgr.block vb hvw (by simp)).trans (unhide HV)
  have g1 : w1.heap[g]? = some (.cells cur.toArray 41 (0, 0)) := (hgr.block g hgw (by simp)).trans (unhide HG)
  obtain ⟨w2, hcp, G2, B2⟩ := run_copy_hits w1 3 w.heap.size (at_ * 2) (n + 1 - at_) (G - at_) ⟨vb, 0, none⟩ 1 1 _ 41 [Value.int .i64 x, Value.int .i64 y] hrow 1 m5 rfl (news_of_heap V1) m1 (by simp [Value.oneCell'])
  have g2 : w2.heap[g]? = some (.cells cur.toArray 41 (0, 0)) := (B2.block g (by omega) (by simp; omega)).trans g1
  have k1 : Nat.min (n - at_) (n + 1 - (at_ + 1)) = n - at_ := by simp only [Nat.min_def]; split <;> omega
  have k2 : (cells2 (hs.drop at_)).length = (n - at_) * 2 := by rw [cells2_len, List.length_drop, hl2]
  have k3 : (at_ + 1) * 2 + (cells2 (hs.drop at_)).length ≤ (laidOver row (at_ * 2) [Value.int .i64 x, Value.int .i64 y]).length := by rw [laidOver_len m1, k2, hrl]; omega
  have GG2 := hide G2
  have BB2 : Hid (w.grownBy w2 (some g)) := ⟨B2.os.trans hgr.os, B2.tape.trans hgr.tape, B2.output.trans hgr.output, Nat.le_trans hgr.size B2.size, fun i hi _ => (B2.block i (by omega) (by simp; omega)).trans (hgr.block i hi (by simp))⟩
  have HG2 := hide g2
  have K1 := hide k1
  have K2 := hide k2
  have K3 := hide k3
  have HM := hide hG2
  have hGb : (G : Int) ≤ 9223372036854775807 := by unfold maxLen at hG2; omega
  have hGi : ¬ (G = at_) := by omega
  have hGi1 : ¬ (G = at_ + 1) := by omega
  have hn1 : (at_ : Int) ≤ (n : Int) + 1 := by omega
  have hsw2 : w.heap.size < w2.heap.size := by have := B2.size; omega
  clear R m1 m5 V1 g1 g2 k1 k2 k3 G2 B2 hrow hrl hrt hG2 hgr hsz HAZ HG HV
  go_wp2_with (first | (at_builtin; refine Lib.wpList_append_run _ rfl _ _ _ _ rfl _ _ rfl rfl _ _ hr ?_) | simp only [hcp])
  go_region_law (first
    | (refine step_copy_hits rfl _ _ rfl w.heap.size ((at_ + 1) * 2) (n + 1 - (at_ + 1)) (G - (at_ + 1)) ⟨g, at_ * 2, none⟩ (n - at_) (cap - at_) (by simp [Act.eval, Act.put]) (by simp [Act.eval, Act.put]) _ 41 (cells2 (hs.drop at_)) (unhide GG2) (n - at_) (unhide K1) (unhide K2) (news_of_row (unhide HG2) (unhide HT) _ rfl) (unhide K3) (cells2_one _) ?_; intro w3 G3 B3; have GG3 := hide G3; have BB3 := hide (show w2.grownBy w3 (some w.heap.size) from ⟨B3.os, B3.tape, B3.output, B3.size, B3.block⟩); clear G3 B3))
  go_wp2_with fail
  go_ret
  have e4 : (cells2 (hs.take at_ ++ (x, y) :: hs.drop at_)).length = (n + 1) * 2 := by
    rw [cells2_len]
    simp
    omega
  refine ⟨G, rfl, ⟨e4, .inr ⟨w.heap.size, G, _, rfl, hbase, unhide GG3, hG1, unhide HM, by simpa using (unhide HR).1, by simpa using (unhide HR).2⟩⟩, ?_⟩
  have b2 := unhide BB2
  have b3 := unhide BB3
  exact ⟨b3.os.trans b2.os, b3.tape.trans b2.tape, b3.output.trans b2.output, Nat.le_trans b2.size b3.size, fun i hi hr => (b3.block i (by have := b2.size; omega) (by simp; omega)).trans (b2.block i hi hr)⟩

theorem isHits_heap {w : World} {vb : Nat} {x y : Int} (h : w.heap[vb]? = some (.cells #[.int .i64 x, .int .i64 y] 41 (0, 0))) (hwf : Wf2 (x, y)) : IsHits w (.slice (some ⟨vb, 0, none⟩) 1 1) [(x, y)] := by
  refine ⟨_, _, rfl, by simp, ⟨by unfold maxLen; omega, by simp⟩, by simpa using hwf, fun _ => ⟨vb, 0, rfl, fun j a b hj => ?_⟩⟩
  cases j with
  | zero =>
    simp at hj
    obtain ⟨rfl, rfl⟩ := hj
    exact cells2_of_heap h
  | succ j => simp at hj

set_option maxRecDepth 100000 in
set_option maxHeartbeats 1000000 in
/-- At the end. -/
theorem insert_end (base g n cap vb : Nat) (hs : List (Int × Int)) (x y : Int) (w : World) (hown : w.ownsRow base 41 2 (.slice (some ⟨g, 0, none⟩) n cap) n (cells2 hs)) (hn : n < 100000000) (hbase : base ≤ w.heap.size)
    (hv : w.heap[vb]? = some (.cells #[.int .i64 x, .int .i64 y] 41 (0, 0))) (hwf : Wf2 (x, y)) :
    Calls Try.prog 156 #[.slice (some ⟨g, 0, none⟩) n cap, .int .i64 n, .slice (some ⟨vb, 0, none⟩) 1 1] w fun e w' =>
      ∃ r, e = .returned r ∧ w'.ownsRow base 41 2 r (n + 1) (cells2 (hs ++ [(x, y)])) ∧ w.grownBy w' (some g) := by
  have hnc := own_le' hown
  have X := isHits_heap hv hwf
  have hin : (n : Int) ≤ (cap : Int) := by omega
  have hz : ((n : Int) == (n : Int)) = true := by simp
  have hcm : cap ≤ maxLen := by
    rcases hown.2 with ⟨h', _⟩ | ⟨g', cap', cur, h', hb, hg, hnc, hcm, hcs, htake⟩
    · simp at h'
    · simp only [Value.slice.injEq] at h'
      obtain ⟨-, -, rfl⟩ := h'
      exact hcm
  have hbd : (cap : Int) ≤ 9223372036854775807 := by unfold maxLen at hcm; omega
  clear hv hwf hcm
  by_cases hc : cap = n
  · subst hc
    go_enter Try.func156, Try.ntmps156
    go_wp2_with (at_builtin; refine wpList_append_hits rfl _ _ rfl base _ cap hs rfl hown _ [(x, y)] rfl X (by simp; omega) hbase ?_)
    intro v' w1 O1 G1 _
    have HO := hide O1
    have HG := hide G1
    clear O1 G1 hown X
    go_wp2_with fail
    go_ret
    exact ⟨v', rfl, unhide HO, unhide HG⟩
  · go_enter Try.func156, Try.ntmps156
    go_wp2_with (at_builtin; refine wpList_append_hits rfl _ _ rfl base _ n hs rfl hown _ [(x, y)] rfl X (by simp; omega) hbase ?_)
    intro v' w1 O1 G1 _
    have HO := hide O1
    have HG := hide G1
    clear O1 G1 hown X
    go_wp2_with fail
    go_ret
    exact ⟨v', rfl, unhide HO, unhide HG⟩

set_option maxRecDepth 100000 in
set_option maxHeartbeats 1000000 in
/-- Into nothing. -/
theorem insert_nil (base vb : Nat) (x y : Int) (w : World) (hbase : base ≤ w.heap.size)
    (hv : w.heap[vb]? = some (.cells #[.int .i64 x, .int .i64 y] 41 (0, 0))) (hwf : Wf2 (x, y)) :
    Calls Try.prog 156 #[.slice none 0 0, .int .i64 0, .slice (some ⟨vb, 0, none⟩) 1 1] w fun e w' =>
      ∃ r, e = .returned r ∧ w'.ownsRow base 41 2 r (0 + 1) (cells2 ([] ++ [(x, y)])) ∧ w.grownBy w' none := by
  have X := isHits_heap hv hwf
  have O0 : w.ownsRow base 41 2 (.slice none 0 0) 0 (cells2 []) := World.ownsRow_nil _ _ _ _
  have hz : ((0 : Int) == 0) = true := by simp
  clear hv hwf
  go_enter Try.func156, Try.ntmps156
  go_wp2_with (at_builtin; refine wpList_append_hits rfl _ _ rfl base _ 0 [] rfl O0 _ [(x, y)] rfl X (by simp) hbase ?_)
  intro v' w1 O1 G1 _
  have HO := hide O1
  have HG := hide G1
  clear O1 G1 O0 X
  go_wp2_with fail
  go_ret
  exact ⟨v', rfl, unhide HO, unhide HG⟩

/-- slices.Insert of one hit into a row of the call's own. -/
theorem implInsert (base : Nat) (v : Value) (n at_ vb : Nat) (hs : List (Int × Int)) (x y : Int) (w : World) (hown : w.ownsRow base 41 2 v n (cells2 hs)) (hat : at_ ≤ n) (hn : n < 100000000) (hbase : base ≤ w.heap.size)
    (hvg : v.ownBlock ≠ some vb) (hv : w.heap[vb]? = some (.cells #[.int .i64 x, .int .i64 y] 41 (0, 0))) (hwf : Wf2 (x, y)) :
    Calls Try.prog 156 #[v, .int .i64 at_, .slice (some ⟨vb, 0, none⟩) 1 1] w fun e w' =>
      ∃ r, e = .returned r ∧ w'.ownsRow base 41 2 r (n + 1) (cells2 (hs.take at_ ++ (x, y) :: hs.drop at_)) ∧ w.grownBy w' v.ownBlock := by
  have hl2 : hs.length = n := by have := hown.1; rw [cells2_len] at this; omega
  rcases hown.2 with ⟨rfl, rfl⟩ | ⟨g, cap, cur, rfl, -⟩
  · obtain rfl : hs = [] := List.eq_nil_of_length_eq_zero hl2
    obtain rfl : at_ = 0 := by omega
    exact insert_nil base vb x y w hbase hv hwf
  · have hvg' : vb ≠ g := fun e => hvg (by simp [Value.ownBlock, e])
    by_cases he : at_ = n
    · subst he
      have e1 : hs.take at_ ++ (x, y) :: hs.drop at_ = hs ++ [(x, y)] := by
        rw [List.take_of_length_le (by omega), List.drop_eq_nil_of_le (by omega)]
      rw [e1]
      exact insert_end base g at_ cap vb hs x y w hown hn hbase hv hwf
    · by_cases hr : n + 1 ≤ cap
      · exact (insert_shift base g n cap at_ vb hs x y w hown (by omega) hr hvg' hv).mono fun e w' ⟨h1, h2, h3⟩ => ⟨_, h1, h2, h3⟩
      · exact (insert_grow base g n cap at_ vb hs x y w hown (by omega) hr hn hbase hv).mono fun e w' ⟨G, h1, h2, h3⟩ => ⟨_, h1, h2, h3⟩

end Go.Proofs.Ytggnnbdjihihiaa

namespace Go.Proofs.Ytggnnbdjihihiaa
open Go.RowKit

theorem ins_same {hs : List (Int × Int)} {h : Int × Int} (he : hs[posOf hs h]? = some h) : ins hs h = hs := by
  rw [ins_pos, if_pos he]
  simp
theorem ins_new {hs : List (Int × Int)} {h : Int × Int} (he : ¬ hs[posOf hs h]? = some h) : ins hs h = hs.take (posOf hs h) ++ h :: hs.drop (posOf hs h) := by
  rw [ins_pos, if_neg he]
  simp

set_option maxRecDepth 100000 in
set_option maxHeartbeats 1000000 in
theorem implKeep_go (base : Nat) (ao : Option Addr) (cap : Nat) (hs : List (Int × Int)) (x y : Int) (k : Nat) (w : World) (hown : w.ownsRow base 41 2 (.slice ao hs.length cap) hs.length (cells2 hs)) (hn : hs.length ≤ 100000) (hk : hs.length ≤ k) (hk2 : k ≤ 100000) (hbase : base ≤ w.heap.size) (hwf : ∀ p ∈ hs, Wf2 p) (hwh : Wf2 (x, y)) :
    Calls Try.prog 147 #[.slice ao hs.length cap, .agg #[.int .i64 x, .int .i64 y], .int .i64 k, .func (.func 15) #[] #[]] w fun e w' =>
      ∃ r, e = .returned r ∧ w'.ownsRow base 41 2 r ((ins hs (x, y)).take k).length (cells2 ((ins hs (x, y)).take k)) ∧ Below base w w' := by
  have HI := isHits_row hwf hown
  have B0 : Below w.heap.size w (w.alloc (.cells #[.int .i64 x, .int .i64 y] 41)) := (Below.refl _ _).alloc (Nat.le_refl _) _
  obtain ⟨q0, q1⟩ := new_cells (w := w) (T := 41) (x := .int .i64 x) (y := .int .i64 y)
  have HH : Hid (∀ W, Below w.heap.size w W → IsHits W (.slice ao hs.length cap) hs) := fun W hW => HI.later hW
  have HO : Hid (∀ W, Below w.heap.size w W → W.ownsRow base 41 2 (.slice ao hs.length cap) hs.length (cells2 hs)) := fun W hW => own_below hown hW
  have HWF := hide hwf
  clear hown HI hwf
  go_enter Try.func147, Try.ntmps147
  go_wp2_with fail
  go_loopw [9] (fun i wr => ∃ j : Nat, j ≤ hs.length ∧ i = .int .i64 j ∧ j + posOf (hs.drop j) (x, y) = posOf hs (x, y) ∧ wr.cell? ⟨w.heap.size, 0, none⟩ = some (.int .i64 x) ∧ wr.cell? ⟨w.heap.size, 1, none⟩ = some (.int .i64 y) ∧ Below w.heap.size w wr) (fun i _ => hs.length - (intOf i).toNat)
  case atStart => exact ⟨0, Nat.zero_le _, rfl, by simp, q0, q1, B0⟩
  case round =>
    obtain ⟨j, hj, rfl, hps, r0, r1, hB⟩ := hrel
    clear q0 q1 B0
    have HPS := hide hps
    have HB := hide hB
    clear hps hB
    go_upto_region 2 with fail
    go_cut [22] from 10 to 24 (fun s22 wx => s22 = .bool (goOn hs (x, y) j) ∧ wx.cell? ⟨w.heap.size, 0, none⟩ = some (.int .i64 x) ∧ wx.cell? ⟨w.heap.size, 1, none⟩ = some (.int .i64 y) ∧ Below w.heap.size w wx)
    case first =>
      by_cases hlt : j < hs.length
      · obtain ⟨x2, y2, hxy⟩ : ∃ x y, hs[j]? = some (x, y) := ⟨hs[j].1, hs[j].2, by simp [hlt]⟩
        obtain ⟨_, _, e1, _, _, _, hcc⟩ := unhide HH wr (unhide HB)
        simp only [Value.slice.injEq] at e1
        obtain ⟨rfl, -, rfl⟩ := e1
        obtain ⟨b, off, rfl, hcd⟩ := hcc (by omega)
        obtain ⟨p1, p2⟩ := hcd j x2 y2 hxy
        have hgo : goOn hs (x, y) j = bet (x2, y2) (x, y) := by simp [goOn, hxy]
        have HG := hide hgo
        have g1 : decide ((j : Int) < (hs.length : Int)) = true := by simp; omega
        have g3 : (j : Int) < (hs.length : Int) := by omega
        have g5 : (0 : Int) ≤ (j : Int) := by omega
        have LB : Hid (∀ W, Calls Try.prog 15 #[.agg #[.int .i64 x2, .int .i64 y2], .agg #[.int .i64 x, .int .i64 y]] W fun e w' => e = .returned (.bool (bet (x2, y2) (x, y))) ∧ Below W.heap.size W w') := fun W => implBetter x2 y2 x y W
        clear hxy hgo hcc hcd HPS HWF HH HO
        go_region_held3 (fun w' => Below wr.heap.size wr w' ∧ w'.cell? ⟨b, off + j * 2, none⟩ = some (.int .i64 x2) ∧ w'.cell? ⟨b, off + j * 2 + 1, none⟩ = some (.int .i64 y2) ∧ w'.cell? ⟨w.heap.size, 0, none⟩ = some (.int .i64 x) ∧ w'.cell? ⟨w.heap.size, 1, none⟩ = some (.int .i64 y))
          (first
            | exact ⟨(Below.refl _ _).drew, p1, p2, r0, r1⟩
            | (refine ⟨below_keep2 ?_ hb2, cell_keep hb2 ?_, cell_keep hb2 ?_, cell_keep hb2 ?_, cell_keep hb2 ?_⟩ <;> (first | assumption | (go_split_ands; assumption)))
            | go_keep)
          (first
            | (go_at_call 15; refine (unhide LB _).mono ?_; rintro e w2 ⟨rfl, hb2⟩))
        go_wp2_with fail
        go_meet
        refine ⟨congrArg Value.bool (unhide HG).symm, ?_, ?_, below_keep2 (unhide HB) ?_⟩ <;> (first | assumption | (go_split_ands; assumption))
      · obtain rfl : j = hs.length := by omega
        have hgo : goOn hs (x, y) hs.length = false := by simp [goOn]
        have HG := hide hgo
        have g1 : decide ((hs.length : Int) < (hs.length : Int)) = false := by simp
        clear hgo HPS HWF HH HO
        go_quiet (fail)
        go_wp2_with fail
        go_meet
        exact ⟨congrArg Value.bool (unhide HG).symm, r0, r1, below_drewN (unhide HB) _⟩
    case rest =>
    obtain ⟨rfl, s0, s1, hBc⟩ := hcut
    clear r0 r1 HB
    cases hg : goOn hs (x, y) j with
    | true =>
      obtain ⟨hlt, he⟩ := goOn_true hg
      have HP2 : Hid (j + 1 + posOf (hs.drop (j + 1)) (x, y) = posOf hs (x, y)) := by
        show j + 1 + posOf (hs.drop (j + 1)) (x, y) = posOf hs (x, y)
        have := unhide HPS
        omega
      have HBc := hide hBc
      clear he HPS hg hBc
      go_wp2_with fail
      go_roundw
      case rel => exact ⟨j + 1, by omega, by go_num, unhide HP2, s0, s1, unhide HBc⟩
      case measure => simp [intOf]; omega
    | false =>
      have hpo := goOn_false hg
      have hps := unhide HPS
      rw [hpo, Nat.add_zero] at hps
      have HE := hide hps
      have HBc := hide hBc
      clear hpo hps hg hBc HPS
      go_upto_region 4 with fail
      go_cut [36] from 25 to 35 (fun s36 wx => s36 = .bool (decide (hs[j]? = some (x, y))) ∧ wx.cell? ⟨w.heap.size, 0, none⟩ = some (.int .i64 x) ∧ wx.cell? ⟨w.heap.size, 1, none⟩ = some (.int .i64 y) ∧ Below w.heap.size w wx)
      case first =>
        by_cases hlt : j < hs.length
        · obtain ⟨x2, y2, hxy⟩ : ∃ x y, hs[j]? = some (x, y) := ⟨hs[j].1, hs[j].2, by simp [hlt]⟩
          obtain ⟨_, _, e1, _, _, _, hcc⟩ := unhide HH wc (unhide HBc)
          simp only [Value.slice.injEq] at e1
          obtain ⟨rfl, -, rfl⟩ := e1
          obtain ⟨b, off, rfl, hcd⟩ := hcc (by omega)
          obtain ⟨p1, p2⟩ := hcd j x2 y2 hxy
          have hd : decide (hs[j]? = some (x, y)) = (x2 == x && y2 == y) := by
            rw [hxy]
            by_cases h1 : x2 = x <;> by_cases h2 : y2 = y <;> simp [h1, h2]
          have HG := hide hd
          have g1 : decide ((j : Int) < (hs.length : Int)) = true := by simp; omega
          have g3 : (j : Int) < (hs.length : Int) := by omega
          have g5 : (0 : Int) ≤ (j : Int) := by omega
          have hin := eqIn2 x2 y2 x y
          have hne := eql2 x2 y2 x y
          clear hxy hcc hcd hd HWF HH HO
          go_quiet (fail)
          go_wp2_with fail
          go_meet
          exact ⟨congrArg Value.bool (unhide HG).symm, s0, s1, below_drewN (unhide HBc) _⟩
        · obtain rfl : j = hs.length := by omega
          have hd : decide (hs[hs.length]? = some (x, y)) = false := by simp
          have HG := hide hd
          have g1 : decide ((hs.length : Int) < (hs.length : Int)) = false := by simp
          clear hd HWF HH HO
          go_quiet (fail)
          go_wp2_with fail
          go_meet
          exact ⟨congrArg Value.bool (unhide HG).symm, s0, s1, below_drewN (unhide HBc) _⟩
      case rest =>
      obtain ⟨rfl, u0, u1, hb3⟩ := hcut
      clear s0 s1 HBc
      have hj' := unhide HE
      by_cases hd : hs[j]? = some (x, y)
      · have d1 : decide (hs[j]? = some (x, y)) = true := by simp [hd]
        rw [d1]
        have hi : ins hs (x, y) = hs := ins_same (by rw [← hj']; exact hd)
        have O3 := unhide HO _ hb3
        have e1 : (ins hs (x, y)).take k = hs := by rw [hi, List.take_of_length_le hk]
        have HE1 := hide e1
        have HO3 := hide O3
        have HB3 := hide (hb3.mono hbase)
        clear d1 hd hi O3 e1 hb3 HH HO HWF u0 u1 hj'
        go_wp2_with fail
        go_ret
        refine ⟨_, rfl, ?_, unhide HB3⟩
        rw [unhide HE1]
        exact unhide HO3
      · have d1 : decide (hs[j]? = some (x, y)) = false := by simp [hd]
        rw [d1]
        have hi : ins hs (x, y) = hs.take j ++ (x, y) :: hs.drop j := by
          rw [ins_new (by rw [← hj']; exact hd), ← hj']
        have HI := hide hi
        have O3 := (unhide HO _ hb3).alloc (.cells #[.int .i64 x, .int .i64 y] 41)
        have hne : (Value.slice ao hs.length cap).ownBlock ≠ some wc.heap.size := fun e => by have := ((unhide HO _ hb3).lt _ e).2; omega
        have bs : base ≤ wc.heap.size := Nat.le_trans hbase hb3.size
        have L := implInsert base (.slice ao hs.length cap) hs.length j wc.heap.size hs x y (wc.alloc (.cells #[.int .i64 x, .int .i64 y] 41)) O3 hj (by omega) (by simp; omega) hne (by simpa using heap_alloc_new wc (.cells #[.int .i64 x, .int .i64 y] 41)) hwh
        have b4 : Below base w (wc.alloc (.cells #[.int .i64 x, .int .i64 y] 41)) := (hb3.mono hbase).alloc bs _
        have HB4 := hide b4
        have hlo : ∀ q, (Value.slice ao hs.length cap).ownBlock = some q → base ≤ q := fun q hq => ((unhide HO _ hb3).lt q hq).1
        have HLO := hide hlo
        have HBS := hide bs
        clear d1 hd hi O3 hne hb3 b4 hlo HH HO HWF bs hj'
        go_wp2_with fail
        refine L.mono ?_
        rintro e w5 ⟨r, rfl, O5, G5⟩
        have b5 : Below base w w5 := (unhide HB4).grown G5 (by have := unhide HBS; simp; omega) (fun q hq => unhide HLO q hq)
        rw [← unhide HI] at O5
        have hlen : hs.length + 1 = (ins hs (x, y)).length := by
          have := O5.1
          rw [cells2_len] at this
          omega
        obtain ⟨g, cp, rfl⟩ : ∃ g cp, r = .slice (some ⟨g, 0, none⟩) (hs.length + 1) cp := by
          rcases O5.2 with ⟨_, h0⟩ | ⟨g, cp, cur, rfl, _⟩
          · omega
          · exact ⟨g, cp, rfl⟩
        have hle := own_le O5
        have HB5 := hide b5
        clear L G5 b5 u0 u1 HB4
        by_cases hkk : hs.length = k
        · have O6 := own_take O5 k (by omega)
          have e2 : ((ins hs (x, y)).take k).length = k := by simp; omega
          have HO6 := hide O6
          have HE2 := hide e2
          have c1 : ((k : Nat) : Int) ≤ (cp : Int) := by omega
          have d2 : decide ((k : Int) < (hs.length : Int) + 1) = true := by simp; omega
          clear O5 O6 e2
          go_wp2_with fail
          go_ret
          refine ⟨_, rfl, ?_, unhide HB5⟩
          rw [unhide HE2]
          exact unhide HO6
        · have e1 : (ins hs (x, y)).take k = ins hs (x, y) := List.take_of_length_le (by omega)
          have HE1 := hide e1
          have HLE := hide hlen
          have HO5 := hide O5
          have d2 : decide ((k : Int) < (hs.length : Int) + 1) = false := by simp; omega
          clear O5 e1 hlen
          go_wp2_with fail
          go_ret
          refine ⟨_, rfl, ?_, unhide HB5⟩
          rw [unhide HE1, ← unhide HLE]
          exact unhide HO5

/-- keepHit. -/
theorem implKeep (base : Nat) (v : Value) (hs : List (Int × Int)) (x y : Int) (k : Nat) (w : World) (hown : w.ownsRow base 41 2 v hs.length (cells2 hs)) (hn : hs.length ≤ 100000) (hk : hs.length ≤ k) (hk2 : k ≤ 100000) (hbase : base ≤ w.heap.size) (hwf : ∀ p ∈ hs, Wf2 p) (hwh : Wf2 (x, y)) :
    Calls Try.prog 147 #[v, .agg #[.int .i64 x, .int .i64 y], .int .i64 k, .func (.func 15) #[] #[]] w fun e w' =>
      ∃ r, e = .returned r ∧ w'.ownsRow base 41 2 r ((ins hs (x, y)).take k).length (cells2 ((ins hs (x, y)).take k)) ∧ Below base w w' := by
  obtain ⟨ao, cap, rfl⟩ := own_shape hown
  exact implKeep_go base ao cap hs x y k w hown hn hk hk2 hbase hwf hwh

end Go.Proofs.Ytggnnbdjihihiaa

namespace Go.Proofs.Ytggnnbdjihihiaa
open Go.RowKit

set_option maxHeartbeats 1000000 in
theorem implFirst (v : Value) (hs : List (Int × Int)) (k : Nat) (w : World) (h : IsHits w v hs) (hn : hs.length ≤ 100000) (hk : k ≤ 100) :
    Calls Try.prog 116 #[v, .int .i64 k, .func (.func 15) #[] #[]] w fun e w' =>
      ∃ r, e = .returned r ∧ w'.ownsRow w.heap.size 41 2 r (best k hs).length (cells2 (best k hs)) ∧ Below w.heap.size w w' := by
  obtain ⟨ao, cap, rfl, h1, h2, hwf, hc⟩ := h
  have HWF := hide hwf
  clear hwf h2
  go_enter Try.func116, Try.ntmps116
  go_wp2_with fail
  go_loopw [7, 12] (fun v i wr => ∃ (j : Nat) (a : Option Addr) (cp : Nat), j ≤ hs.length ∧ i = .int .i64 j ∧ v = .slice a (best k (hs.take j)).length cp ∧ wr.ownsRow w.heap.size 41 2 v (best k (hs.take j)).length (cells2 (best k (hs.take j))) ∧ Below w.heap.size w wr)
    (fun _ i _ => hs.length - (intOf i).toNat)
  case atStart => exact ⟨0, none, 0, Nat.zero_le _, rfl, rfl, World.ownsRow_nil _ _ _ _, Below.refl _ _⟩
  case round =>
    obtain ⟨j, a, cp, hj, rfl, rfl, hown, hB⟩ := hrel
    by_cases hlt : j < hs.length
    · obtain ⟨x, y, hxy⟩ : ∃ x y, hs[j]? = some (x, y) := ⟨hs[j].1, hs[j].2, by simp [hlt]⟩
      obtain ⟨b, off, rfl, hcd⟩ := hc (by omega)
      have c1 := (hB.cell (World.block_lt_of_cell? _ _ (hcd j x y hxy).1)).trans (hcd j x y hxy).1
      have c2 := (hB.cell (World.block_lt_of_cell? _ _ (hcd j x y hxy).2)).trans (hcd j x y hxy).2
      have hw1 : ∀ p ∈ best k (hs.take j), Wf2 p := fun p hp => unhide HWF p (List.mem_of_mem_take (best_mem hp))
      have hl := best_len k (hs.take j)
      have hwh : Wf2 (x, y) := unhide HWF _ (List.mem_of_getElem? hxy)
      have HS := hide (best_snoc k hs j x y hxy)
      have L := implKeep w.heap.size (.slice a (best k (hs.take j)).length cp) (best k (hs.take j)) x y k (wr.alloc (.cells #[.int .i64 x, .int .i64 y] 41)) (hown.alloc _) (by omega) hl (by omega) (by have := hB.size; simp; omega) hw1 hwh
      rw [← unhide HS] at L
      have HB := hide (hB.alloc hB.size (.cells #[.int .i64 x, .int .i64 y] 41))
      have HC := hide hc
      clear hown hB hc hcd hxy hw1 hl hwh HS
      generalize (best k (hs.take j)).length = n at *
      go_wp2_with fail
      refine L.mono ?_
      rintro e w1 ⟨r, rfl, ho, hb⟩
      obtain ⟨a1, cp1, rfl⟩ := own_shape ho
      have HO := hide ho
      have HB1 := hide ((unhide HB).trans hb)
      clear L ho hb HB c1 c2
      go_wp2_with fail
      go_roundw
      case rel => exact ⟨j + 1, a1, cp1, by omega, by go_num, rfl, unhide HO, unhide HB1⟩
      case measure => simp [intOf]; omega
    · obtain rfl : j = hs.length := by omega
      rw [List.take_length] at hown ⊢
      have HO := hide hown
      have HB := hide hB
      clear hown hB hc
      go_wp2_with fail
      go_ret
      exact ⟨_, rfl, unhide HO, unhide HB⟩

end Go.Proofs.Ytggnnbdjihihiaa

namespace Go.Proofs.Ytggnnbdjihihiaa
open Go.RowKit

def looseOf (hs : List (Int × Int)) : Int := if 200 < hs.length then 2 else if hs.all oneB then 0 else 3

set_option maxHeartbeats 400000 in
theorem implLoose (v : Value) (hs : List (Int × Int)) (w : World) (h : IsHits w v hs) :
    Calls Try.prog 115 #[v] w fun e w' => e = .returned (.int .i64 (looseOf hs)) ∧ Below w.heap.size w w' := by
  obtain ⟨ao, cap, rfl, h1, h2, hwf, hc⟩ := h
  by_cases hn : hs.length ≤ 200
  · have e : looseOf hs = if hs.all oneB then 0 else 3 := by unfold looseOf; rw [if_neg (by omega)]
    rw [e]
    have e0 : ∃ F0 : Int, (if hs.all oneB = true then 0 else 3) = F0 := ⟨_, rfl⟩
    obtain ⟨F0, hF0⟩ := e0
    rw [hF0]
    clear e hwf h2
    go_enter Try.func115, Try.ntmps115
    go_wp2_with fail
    go_loopw [10] (fun i wr => ∃ k : Nat, k ≤ hs.length ∧ i = .int .i64 k ∧ (if (hs.drop k).all oneB = true then (0 : Int) else 3) = F0 ∧ Below w.heap.size w wr) (fun i _ => hs.length - (intOf i).toNat)
    case atStart => exact ⟨0, Nat.zero_le _, rfl, hF0, Below.refl _ _⟩
    case round =>
      obtain ⟨k, hk, rfl, hF, hB⟩ := hrel
      by_cases hlt : k < hs.length
      · obtain ⟨x, y, hxy⟩ : ∃ x y, hs[k]? = some (x, y) := ⟨hs[k].1, hs[k].2, by simp [hlt]⟩
        obtain ⟨b, off, rfl, hc1⟩ := hc (by omega)
        have c1 := (hB.cell (World.block_lt_of_cell? _ _ (hc1 k x y hxy).1)).trans (hc1 k x y hxy).1
        have c2 := (hB.cell (World.block_lt_of_cell? _ _ (hc1 k x y hxy).2)).trans (hc1 k x y hxy).2
        rw [drop_at hxy, List.all_cons] at hF
        have HF := hide hF
        have HB := hide hB
        clear hF hB hc1 hxy
        go_wp2_with fail
        refine (implIsHit x y _).mono ?_
        rintro e w1 ⟨rfl, hb1⟩
        have hb0 : Below wr.heap.size wr w1 := ((Below.refl _ _).alloc (Nat.le_refl _) _).trans (hb1.mono (by simp))
        have B1 := hide (below_keep2 (unhide HB) hb0)
        cases ho : oneB (x, y) with
        | false =>
          have hF := unhide HF
          rw [ho, Bool.false_and, if_neg (by simp)] at hF
          have HF2 := hide hF
          clear c1 c2 HF HB hF ho hb0 hb1 hc
          go_wp2_with fail
          go_ret
          refine ⟨?_, unhide B1⟩
          rw [← unhide HF2]
          rfl
        | true =>
          have hF := unhide HF
          rw [ho, Bool.true_and] at hF
          have HF2 := hide hF
          clear c1 c2 HF HB hF ho hb0 hb1
          go_wp2_with fail
          go_roundw
          case rel => exact ⟨k + 1, by omega, by go_num, unhide HF2, unhide B1⟩
          case measure => simp [intOf]; omega
      · obtain rfl : k = hs.length := by omega
        rw [List.drop_length, List.all_nil, if_pos rfl] at hF
        have HF := hide hF
        clear hc hF
        go_wp2_with fail
        go_ret
        refine ⟨?_, hB⟩
        rw [← unhide HF]
        rfl
  · have e : looseOf hs = 2 := by unfold looseOf; rw [if_pos (by omega)]
    rw [e]
    have hd : decide ((200 : Int) < (hs.length : Int)) = true := by simp; omega
    clear hc h1 h2 hwf e
    go_enter Try.func115, Try.ntmps115
    go_wp2_with fail
    go_ret
    exact ⟨rfl, Below.refl _ _⟩

end Go.Proofs.Ytggnnbdjihihiaa

namespace Go.Proofs.Ytggnnbdjihihiaa
open Go.RowKit

theorem bestCode_eq (hs : List (Int × Int)) (k : Int) : bestCode hs k = if kB k then looseOf hs else 3 := rfl

theorem looseOf_zero {hs : List (Int × Int)} (h : looseOf hs = 0) : hs.length ≤ 200 := by
  unfold looseOf at h
  split at h
  · omega
  · omega

set_option maxRecDepth 100000 in
set_option maxHeartbeats 1000000 in
theorem implBest_all (v : Value) (hs : List (Int × Int)) (k : Int) (w : World) (h : IsHits w v hs) :
    Calls Try.prog 68 #[v, .int .i64 k] w fun e w' => Told w w' e (bestCode hs k) (bestList hs k) := by
  have HH := hide h
  have bb : Below w.heap.size w (w.alloc (.cells #[.int .i64 0, .slice none 0 0] 37)) := (Below.refl _ _).alloc (Nat.le_refl _) _
  clear h
  go_enter Try.func68, Try.ntmps68
  go_wp2_with fail
  refine (implWanted k _).mono ?_
  rintro e w1 ⟨rfl, rfl⟩
  have RV : Hid (∀ W, Below (w.alloc (.cells #[.int .i64 0, .slice none 0 0] 37)).heap.size (w.alloc (.cells #[.int .i64 0, .slice none 0 0] 37)) W → W.cell? ⟨w.heap.size, 0, none⟩ = some (.int .i64 0) ∧ W.cell? ⟨w.heap.size, 1, none⟩ = some (.slice none 0 0) ∧ (∀ o, W.frozen? ⟨w.heap.size, o, none⟩ = false) ∧ w.heap.size < W.heap.size) := fun W hW => resVar hW
  have HBB := hide bb
  clear bb
  generalize hwb : w.alloc (.cells #[.int .i64 0, .slice none 0 0] 37) = wb at *
  clear hwb
  cases hk : kB k with
  | false =>
    have e0 : bestCode hs k = 3 := by simp [bestCode_eq, hk]
    have e1 : bestList hs k = [] := by simp [bestList, e0]
    have hk' : (decide ((0 : Int) ≤ k) && decide (k ≤ 20)) = false := hk
    rw [hk']
    have E0 := hide e0
    have E1 := hide e1
    obtain ⟨z0, z1, z2, z3⟩ := unhide RV wb (Below.refl _ _)
    clear hk hk' e0 e1 RV
    go_wp2_with fail
    refine bodyPost_ret (v := intsRes 3 (.slice none 0 0)) (by simp [results, Try.results68, go_sem, intsRes, z0, z1]) rfl ?_
    rw [unhide E0, unhide E1]
    exact told_nil (((unhide HBB).setCell (by simp) _).setCell (by simp) _)
  | true =>
    have hk' : (decide ((0 : Int) ≤ k) && decide (k ≤ 20)) = true := hk
    rw [hk']
    have HK := hide hk
    clear hk hk'
    go_wp2_with fail
    refine (implLoose v hs _ ((unhide HH).later (unhide HBB))).mono ?_
    rintro e w2 ⟨rfl, hb2⟩
    have HB2 := hide hb2
    have HBW2 := hide (below_keep2 (unhide HBB) hb2)
    clear hb2
    by_cases hf : looseOf hs = 0
    · rw [hf]
      have hkk : 0 ≤ k ∧ k ≤ 20 := by simpa [kB] using unhide HK
      obtain ⟨m, rfl⟩ : ∃ m : Nat, k = m := ⟨k.toNat, by omega⟩
      have e0 : bestCode hs m = 0 := by simp [bestCode_eq, unhide HK, hf]
      have e1 : bestList hs m = best m hs := by simp [bestList, e0]
      have E0 := hide e0
      have E1 := hide e1
      have hl := looseOf_zero hf
      have L := implFirst v hs m w2 ((unhide HH).later (unhide HBW2)) (by omega) (by omega)
      clear hf e0 e1 hkk hl
      go_wp2_with fail
      refine L.mono ?_
      rintro e w4 ⟨r, rfl, hown, hb4⟩
      have hb5 := below_keep2 (unhide HB2) hb4
      obtain ⟨z0, z1, z2, z3⟩ := unhide RV w4 hb5
      have HBW4 := hide (below_keep2 (unhide HBW2) hb4)
      have hsz := (unhide RV w2 (unhide HB2)).2.2.2
      have HO2 : Hid (w4.ownsRow (w.heap.size + 1) 41 2 r (best m hs).length (cells2 (best m hs))) := own_mono hsz hown
      obtain ⟨a2, c2, rfl⟩ := own_shape hown
      generalize hln : (best m hs).length = n at *
      clear L hown hb4 hb5 RV
      go_wp2_with fail
      refine bodyPost_ret (v := intsRes 0 (.slice a2 n c2)) (by simp [results, Try.results68, go_sem, intsRes, z0, z1]) rfl ?_
      rw [unhide E0, unhide E1]
      refine ⟨_, rfl, ?_, ((unhide HBW4).setCell (by simp) _).setCell (by simp) _⟩
      rw [hln]
      exact own_mono (b := w.heap.size + 1) (by omega) (own_set (base := w.heap.size + 1) (own_set (base := w.heap.size + 1) (unhide HO2) (by simp) _) (by simp) _)
    · have e0 : bestCode hs k = looseOf hs := by simp [bestCode_eq, unhide HK]
      have e1 : bestList hs k = [] := by simp [bestList, e0, hf]
      have E0 := hide e0
      have E1 := hide e1
      have hd : (looseOf hs != 0) = true := by simpa using hf
      obtain ⟨z0, z1, z2, z3⟩ := unhide RV w2 (unhide HB2)
      clear hf e0 e1 RV
      generalize looseOf hs = F at *
      go_wp2_with fail
      refine bodyPost_ret (v := intsRes F (.slice none 0 0)) (by simp [results, Try.results68, go_sem, intsRes, z0, z1]) rfl ?_
      rw [unhide E0, unhide E1]
      exact told_nil (((unhide HBW2).setCell (by simp) _).setCell (by simp) _)

end Go.Proofs.Ytggnnbdjihihiaa

namespace Go.Proofs.Ytggnnbdjihihiaa
open Go.RowKit

theorem probed_step {x : DIvf} {q : List Int} {zs : List (Pl x.lists.length)} {j : Nat} (h : j < zs.length) : probedH x q ((zs.take (j + 1)).map fun y => (y.1 : Int)) = probedH x q ((zs.take j).map fun y => (y.1 : Int)) ++ (hitsL (itsL x.lists zs[j].1) q).map pairH := by
  have e : (zs.take (j + 1)).map (fun y => (y.1 : Int)) = (zs.take j).map (fun y => (y.1 : Int)) ++ [(zs[j].1 : Int)] := by
    rw [List.take_succ_eq_append_getElem h, List.map_append]; rfl
  rw [e, probedH, List.map_append, List.flatten_append]
  simp [probedH, itsL]

set_option maxRecDepth 100000 in
set_option maxHeartbeats 4000000 in
theorem implSearchIvf (cs : List Value) (x : DIvf) (vq : Value) (q : List Int) (k n : Int) (w : World) (h : Lay.tIvf.Reads w cs x) (hq : (Lay.sl Lay.int).Reads w [vq] q) :
    Calls Try.prog 14 #[.agg cs.toArray, vq, .int .i64 k, .int .i64 n] w fun e w' => ∃ cs', e = .returned (.agg cs'.toArray) ∧ Lay.tHitsResult.OwnIn w' cs' (searchIvfR x q k n) w.heap.size w'.heap.size ∧ Below w.heap.size w w' := by
  obtain ⟨ac, dc, al, dl, rfl, R0, R1⟩ := open_Ivf h
  obtain ⟨aq, dq, rfl⟩ := open_sl hq
  have nb1 : Below w.heap.size w (w.alloc (.cells #[.slice ac x.centers.length dc, .slice al x.lists.length dl] 27)) := (Below.refl _ _).alloc (Nat.le_refl _) _
  have nb : Below w.heap.size w ((w.alloc (.cells #[.slice ac x.centers.length dc, .slice al x.lists.length dl] 27)).alloc (.cells #[.int .i64 0, .slice none 0 0] 37)) := nb1.alloc (by simp) _
  have bX : Box w.heap.size #[.slice ac x.centers.length dc, .slice al x.lists.length dl] 27 ((w.alloc (.cells #[.slice ac x.centers.length dc, .slice al x.lists.length dl] 27)).alloc (.cells #[.int .i64 0, .slice none 0 0] 37)) w.heap.size := (newBox (Nat.le_refl _)).grow _
  have bR : Box w.heap.size #[.int .i64 0, .slice none 0 0] 37 ((w.alloc (.cells #[.slice ac x.centers.length dc, .slice al x.lists.length dl] 27)).alloc (.cells #[.int .i64 0, .slice none 0 0] 37)) (w.heap.size + 1) := newBoxAt (by omega) (by simp)
  have L := hide (probeFC x q ac dc al dl aq dq _ (R0.later nb) (R1.later nb) (hq.later nb))
  have c0 := bX.at 0 _ rfl
  have c1 := bX.at 1 _ rfl
  have H0 := hide (R0.later nb)
  have H1 := hide (R1.later nb)
  have HQ := hide (hq.later nb)
  clear h R0 R1 nb1 hq
  go_enter Try.func14, Try.ntmps14
  go_wp2_with fail
  generalize (w.alloc (.cells #[.slice ac x.centers.length dc, .slice al x.lists.length dl] 27)).alloc (.cells #[.int .i64 0, .slice none 0 0] 37) = W0 at *
  refine (unhide L).mono ?_
  rintro e w1 ⟨rfl, hb⟩
  have hW0 := bR.lt
  replace bR := bR.keep hb
  replace bX := bX.keep hb
  replace nb := nb.trans (hb.mono nb.size)
  have z0 : w1.cell? ⟨w.heap.size + 1, 0, none⟩ = some (.int .i64 0) := bR.at 0 _ rfl
  have z1 : w1.cell? ⟨w.heap.size + 1, 1, none⟩ = some (.slice none 0 0) := bR.at 1 _ rfl
  have f0 := bR.soft 0
  have f1 := bR.soft 1
  have l0 := bR.lt
  have HB := hide nb
  have HR := hide bR
  have HBX := hide bX
  replace H0 := hide ((unhide H0).later hb)
  replace H1 := hide ((unhide H1).later hb)
  replace HQ := hide ((unhide HQ).later hb)
  clear hb L c0 c1 nb bR bX
  by_cases hf : probeF x q = 0
  · rw [hf]
    have hif : ivfFault x = 0 := by
      unfold probeF at hf
      by_cases h : ivfFault x = 0
      · exact h
      · rw [if_neg h] at hf; exact absurd hf h
    have hvf : vecFault q = 0 := by unfold probeF at hf; rw [if_pos hif] at hf; exact hf
    have HIF := hide hif
    have HVF := hide hvf
    clear hf hif hvf
    go_wp2_with fail
    refine (implWanted k _).mono ?_
    rintro e w1 ⟨rfl, rfl⟩
    rw [show (decide (0 ≤ k) && decide (k ≤ 20)) = kB k from rfl]
    cases hk : kB k with
    | false =>
      have HG : Hid (searchIvfR x q k n = ⟨3, []⟩) := by
        show searchIvfR x q k n = _
        rw [searchIvfR, if_pos (unhide HIF), if_pos (unhide HVF), hk]; rfl
      clear hk
      go_wp2_with fail
      refine bodyPost_ret (v := .agg #[.int .i64 3, .slice none 0 0]) (by simp [results, Try.results14, go_sem, z0, z1]) rfl ?_
      rw [unhide HG]
      exact ⟨[.int .i64 3, .slice none 0 0], rfl, own_codeHits (by decide), ((unhide HB).setCell (by simp) _).setCell (by simp) _⟩
    | true =>
      have HKB := hide hk
      clear hk
      go_wp2_with fail
      refine (countC7 n _).mono ?_
      rintro e w1 ⟨rfl, rfl⟩
      cases hn : nB n with
      | false =>
        have HG : Hid (searchIvfR x q k n = ⟨3, []⟩) := by
          show searchIvfR x q k n = _
          rw [searchIvfR, if_pos (unhide HIF), if_pos (unhide HVF), hn, Bool.and_false]; rfl
        clear hn
        go_wp2_with fail
        refine bodyPost_ret (v := .agg #[.int .i64 3, .slice none 0 0]) (by simp [results, Try.results14, go_sem, z0, z1]) rfl ?_
        rw [unhide HG]
        exact ⟨[.int .i64 3, .slice none 0 0], rfl, own_codeHits (by decide), ((unhide HB).setCell (by simp) _).setCell (by simp) _⟩
      | true =>
        obtain ⟨m, rfl, hm6⟩ : ∃ m : Nat, n = m ∧ m ≤ 6 := by
          simp only [nB, Bool.and_eq_true, decide_eq_true_eq] at hn
          exact ⟨n.toNat, by omega, by omega⟩
        have HG : Hid (searchIvfR x q k m = ⟨0, (best k.toNat (probedH x q (probesI x.centers q m))).map dhit⟩) := by
          show searchIvfR x q k m = _
          rw [searchIvfR, if_pos (unhide HIF), if_pos (unhide HVF), unhide HKB, hn]
          rfl
        have hifz := ivfFault_zero (unhide HIF)
        have hc6 := (centersFault_zero hifz.1).1.2
        have HLF := hide (list_facts hifz.2.2.1)
        have HNL : Hid (x.lists.length = x.centers.length) := hifz.2.1
        have LP := hide (probedC x q m ac dc al dl aq dq w1 (unhide H0) (unhide H1) (unhide HQ) hifz.1 hifz.2.1 (unhide HVF) hm6)
        have c0 := (unhide HBX).at 0 _ rfl
        have c1 := (unhide HBX).at 1 _ rfl
        clear hn hifz
        go_wp2_with fail
        refine (unhide LP).mono ?_
        rintro e w2 ⟨v, zs, ia, ic, rfl, hzp, hzr, hO, hb2⟩
        obtain ⟨a2, c2, rfl⟩ := own_form hO
        have HZP := hide hzp
        have hzl : zs.length ≤ 6 := by
          have := congrArg List.length hzp
          rw [List.length_map] at this
          rw [this]
          exact Nat.le_trans (probe_len _ _ _) hm6
        have HPH := hide (fun j => probedH_right (x := x) (q := q) (unhide HLF) (unhide HVF) ((zs.take j).map fun y => (y.1 : Int)))
        have HZR := hide hzr
        have HO := hide hO
        have HW12 := hide hb2
        have HB2 := hide ((unhide HB).trans (hb2.mono (unhide HB).size))
        have HR2 := hide ((unhide HR).keep hb2)
        have HQ2 := hide ((unhide HQ).later hb2)
        clear hO hb2 hzp hzr LP c0 c1 z0 z1 f0 f1 l0 HB HR
        go_wp2_with fail
        go_loopw [10, 34] (fun u i wr => ∃ j : Nat, j ≤ zs.length ∧ i = .int .i64 j ∧ wr.ownsRow w2.heap.size 41 2 u (probedH x q ((zs.take j).map fun y => (y.1 : Int))).length (cells2 (probedH x q ((zs.take j).map fun y => (y.1 : Int)))) ∧ Below w2.heap.size w2 wr) (fun _ i _ => zs.length - (intOf i).toNat)
        case atStart => exact ⟨0, Nat.zero_le _, rfl, World.ownsRow_nil _ _ _ _, Below.refl _ _⟩
        case round =>
          obtain ⟨j, hj, rfl, hown, hB⟩ := hrel
          by_cases hlt : j < zs.length
          · obtain ⟨g2, rfl⟩ : ∃ g, a2 = some ⟨g, 0, none⟩ := by
              rcases (unhide HO).2 with ⟨e, h0⟩ | ⟨g, cap, cur, e, -⟩
              · omega
              · exact ⟨g, by injection e⟩
            have hO2 := own_below (unhide HO) hB
            have hfl : (cellsP ia (fun j => (itsL x.lists j).length) ic zs).length = zs.length * 2 := (unhide HO).1
            have hp := cellsP_at ia (fun j => (itsL x.lists j).length) ic zs j hlt
            have c8 : wr.cell? ⟨g2, j * 2, none⟩ = some (.int .i64 (zs[j].1 : Int)) := (hO2.cellAt (j * 2) (by omega)).trans hp.1
            have c9 : wr.cell? ⟨g2, j * 2 + 1, none⟩ = some (.slice (ia zs[j].1) (itsL x.lists zs[j].1).length (ic zs[j].1)) := (hO2.cellAt (j * 2 + 1) (by omega)).trans hp.2
            have HT9 : Hid (_ = _) := probed_step (x := x) (q := q) (zs := zs) hlt
            have hln : (probedH x q ((zs.take j).map fun y => (y.1 : Int))).length ≤ 180 := by
              have h1 := (unhide HPH j).1
              rw [List.length_map, List.length_take] at h1
              omega
            have hRI := (unhide HZR) zs[j].1 zs[j].2
            have hTF : tableFault (itsL x.lists zs[j].1) = 0 := by rw [itsL_eq zs[j].2]; exact unhide HLF _ (List.getElem_mem zs[j].2)
            have hBw := (unhide HW12).trans (hB.mono (unhide HW12).size)
            generalize probedH x q ((zs.take j).map fun y => (y.1 : Int)) = ph at *
            generalize zs[j] = y at *
            obtain ⟨p, hpp⟩ := y
            dsimp only at c8 c9 HT9 hRI hTF
            generalize itsL x.lists p = its at *
            generalize ia p = ia9 at *
            generalize ic p = ic9 at *
            have nbp : Below wr.heap.size wr (wr.alloc (.cells #[.int .i64 (p : Int), .slice ia9 its.length ic9] 98)) := (Below.refl _ _).alloc (Nat.le_refl _) _
            have bP : Box wr.heap.size #[.int .i64 (p : Int), .slice ia9 its.length ic9] 98 (wr.alloc (.cells #[.int .i64 (p : Int), .slice ia9 its.length ic9] 98)) wr.heap.size := newBox (Nat.le_refl _)
            have hown2 := own_below hown nbp
            have hBn := hBw.trans (nbp.mono hBw.size)
            have hB2n := hB.trans (nbp.mono hB.size)
            have LH := hide (hitsOfC _ its _ q _ (hRI.later hBn) (Lay.ints_reads ((unhide HQ2).later hB2n)) hTF (unhide HVF))
            have HHR := hide (hits_right hTF (unhide HVF))
            have HOW := hide hown2
            have HBN := hide hB2n
            clear hO2 hfl hp hB hown nbp bP hown2 hBw hBn hB2n hRI hTF
            go_wp2_with fail
            clear c8 c9
            generalize wr.alloc (.cells #[.int .i64 (p : Int), .slice ia9 its.length ic9] 98) = Wp at *
            refine (unhide LH).mono ?_
            rintro e w5 ⟨v5, rfl, ho5, hb5⟩
            have hw5 : ∀ p ∈ (hitsL its q).map pairH, Wf2 p := fun p hp => oneB_wf ((unhide HHR).2 p hp)
            have hX5 := isHits_row hw5 ho5
            have hown5 := own_below (unhide HOW) hb5
            have hl5 := (unhide HHR).1
            have hz5 : w2.heap.size ≤ w5.heap.size := Nat.le_trans (unhide HBN).size hb5.size
            have HBN5 := hide ((unhide HBN).trans (hb5.mono (unhide HBN).size))
            clear ho5 hb5 HOW HBN LH hw5
            go_wp2_with (at_builtin; refine wpList_append_hits rfl _ _ rfl w2.heap.size _ ph.length ph rfl hown5 _ ((hitsL its q).map pairH) rfl hX5 ?hn9 hz5 ?_; case hn9 => omega)
            intro v6 w6 ho6 hg6 _
            obtain ⟨a6, c6, rfl⟩ := own_form ho6
            have HO6 := hide ho6
            have HB6 := hide ((unhide HBN5).grown hg6 hz5 (fun j hj => (hown5.lt j hj).1))
            clear ho6 hg6 hown5 hX5 HBN5
            go_wp2_with fail
            go_roundw
            case rel =>
              refine ⟨j + 1, by omega, by go_num, ?_, unhide HB6⟩
              rw [unhide HT9, List.length_append, List.length_map]
              exact unhide HO6
            case measure => simp [intOf]; omega
          · obtain rfl : j = zs.length := by omega
            rw [List.take_length, unhide HZP] at hown
            have hpr := probedH_right (x := x) (q := q) (unhide HLF) (unhide HVF) (probesI x.centers q m)
            have hpl := probe_len x.centers q m
            have hl2 : (probedH x q (probesI x.centers q m)).length ≤ 180 := by omega
            have hwf : ∀ p ∈ probedH x q (probesI x.centers q m), Wf2 p := fun p hp => oneB_wf (hpr.2 p hp)
            obtain ⟨a7, c7, rfl⟩ := own_form hown
            have hI := isHits_row hwf hown
            have hbc : bestCode (probedH x q (probesI x.centers q m)) k = 0 := by rw [bestCode, unhide HKB, if_pos rfl, if_neg (by omega), if_pos (List.all_eq_true.2 hpr.2)]
            have hbl : bestList (probedH x q (probesI x.centers q m)) k = best k.toNat (probedH x q (probesI x.centers q m)) := by rw [bestList, if_pos hbc]
            have L := implBest_all _ _ k wr hI
            rw [hbc, hbl] at L
            have HL2 := hide L
            have HWF := hide hwf
            have HB3 := hide ((unhide HB2).trans (hB.mono (unhide HB2).size))
            have HR3 := hide ((unhide HR2).keep hB)
            clear L hI hown hB hwf hpr hbc hbl
            have hk20 : k ≤ 20 := by have := unhide HKB; simp only [kB, Bool.and_eq_true, decide_eq_true_eq] at this; exact this.2
            go_wp2_with fail
            refine (unhide HL2).mono ?_
            rintro e w3 ⟨r3, rfl, ho3, hb3⟩
            have hO := own_hits ho3 (best_wf (unhide HWF)) (by have := best_len k.toNat (probedH x q (probesI x.centers q m)); omega)
            obtain ⟨ao9, cp9, rfl⟩ := open_sl hO.reads
            simp only [intsRes]
            have bR := (unhide HR3).keep hb3
            have z0 : w3.cell? ⟨w.heap.size + 1, 0, none⟩ = some (.int .i64 0) := bR.at 0 _ rfl
            have z1 : w3.cell? ⟨w.heap.size + 1, 1, none⟩ = some (.slice none 0 0) := bR.at 1 _ rfl
            have f0 := bR.soft 0
            have f1 := bR.soft 1
            have l0 := bR.lt
            have HB9 := hide ((unhide HB3).trans (hb3.mono (unhide HB3).size))
            have HO9 := hide (hO.mono (lo' := w.heap.size + 2) (by have := (unhide HR3).lt; omega) (Nat.le_refl _))
            clear hO hb3 bR ho3
            generalize ((best k.toNat (probedH x q (probesI x.centers q m))).map dhit).length = n9 at *
            go_wp2_with fail
            refine bodyPost_ret (v := .agg #[.int .i64 0, .slice ao9 n9 cp9]) (by simp [results, Try.results14, go_sem, z0, z1]) rfl ?_
            rw [unhide HG]
            have hE : Ext (fun c => c = w.heap.size + 1) w3 ((w3.setCell ⟨w.heap.size + 1, 0, none⟩ (.int .i64 0)).setCell ⟨w.heap.size + 1, 1, none⟩ (.slice ao9 n9 cp9)) := ((Ext.refl (fun c => c = w.heap.size + 1) _).setCell ⟨w.heap.size + 1, 0, none⟩ _ rfl).setCell ⟨w.heap.size + 1, 1, none⟩ _ rfl
            exact ⟨[.int .i64 0, .slice ao9 n9 cp9], rfl, own_hitsR (by decide) (((unhide HO9).ext hE (fun c h1 _ h3 => by omega)).mono (by omega) (by simp)), ((unhide HB9).setCell (by simp) _).setCell (by simp) _⟩
  · have hd : (probeF x q != 0) = true := by simpa using hf
    have HG : Hid (searchIvfR x q k n = ⟨probeF x q, []⟩) := by
      show searchIvfR x q k n = _
      unfold searchIvfR probeF
      by_cases h : ivfFault x = 0
      · have hv : vecFault q ≠ 0 := fun hv => hf (by rw [probeF, if_pos h]; exact hv)
        rw [if_pos h, if_pos h, if_neg hv]
      · rw [if_neg h, if_neg h]
    clear hf
    go_wp2_with fail
    refine bodyPost_ret (v := .agg #[.int .i64 (probeF x q), .slice none 0 0]) (by simp [results, Try.results14, go_sem, z0, z1]) rfl ?_
    rw [unhide HG]
    exact ⟨[.int .i64 (probeF x q), .slice none 0 0], rfl, own_codeHits (probeF_wf x q), ((unhide HB).setCell (by simp) _).setCell (by simp) _⟩

end Go.Proofs.Ytggnnbdjihihiaa

namespace Go.Proofs.Ytggnnbdjihihiaa
open Go.RowKit

set_option maxRecDepth 10000 in
set_option maxHeartbeats 1000000 in
theorem implNearest (v : Value) (cs : List DCenter) (vq : Value) (q : List Int) (w : World) (h : (Lay.sl Lay.tCenter).Reads w [v] cs) (hq : (Lay.sl Lay.int).Reads w [vq] q) :
    Calls Try.prog 16 #[v, vq] w fun e w' => ∃ cs', e = .returned (.agg cs'.toArray) ∧ Lay.tIntResult.OwnIn w' cs' (nearestR cs q) w.heap.size w'.heap.size ∧ Below w.heap.size w w' := by
  have HB0 : Below w.heap.size w (w.alloc (.cells #[.int .i64 0, .int .i64 0] 43)) := (Below.refl _ _).alloc (Nat.le_refl _) _
  have bR : Box w.heap.size #[.int .i64 0, .int .i64 0] 43 (w.alloc (.cells #[.int .i64 0, .int .i64 0] 43)) w.heap.size := newBox (Nat.le_refl _)
  have h0 := h.later HB0
  have HQ := hide (Lay.ints_reads (hq.later HB0))
  obtain ⟨ao, cap, rfl⟩ := open_sl h
  obtain ⟨ao2, cap2, rfl⟩ := open_sl hq
  clear h hq
  go_enter Try.func16, Try.ntmps16
  go_wp2_with fail
  generalize w.alloc (.cells #[.int .i64 0, .int .i64 0] 43) = W0 at *
  refine (implCen _ cs W0 h0).mono ?_
  rintro e w1 ⟨rfl, hb⟩
  have H := hide (h0.later hb)
  replace HQ := hide ((unhide HQ).later hb)
  replace bR := bR.keep hb
  replace HB0 := HB0.trans (hb.mono HB0.size)
  have z0 : w1.cell? ⟨w.heap.size, 0, none⟩ = some (.int .i64 0) := bR.at 0 _ rfl
  have z1 : w1.cell? ⟨w.heap.size, 1, none⟩ = some (.int .i64 0) := bR.at 1 _ rfl
  have f0 := bR.soft 0
  have f1 := bR.soft 1
  have l0 := bR.lt
  have HB := hide HB0
  have HR := hide bR
  clear hb HB0 bR h0
  by_cases hf : centersFault cs = 0
  · rw [hf]
    go_wp2_with fail
    refine (implFault _ q _ (unhide HQ)).mono ?_
    rintro e w1 ⟨rfl, rfl⟩
    by_cases hfq : vecFault q = 0
    · rw [hfq]
      have HG : Hid (nearestR cs q = ⟨0, near cs q⟩) := by
        show nearestR cs q = _
        rw [nearestR, if_pos hf, if_pos hfq]
      have hlt := near_lt hf hfq
      have hle := (centersFault_zero hf).1.2
      have HN := hide (nearC _ cs _ q w1 (unhide H) (unhide HQ) hf hfq)
      clear hf hfq H HQ z0 z1 f0 f1 l0
      go_wp2_with fail
      refine (unhide HN).mono ?_
      rintro e w2 ⟨rfl, hb⟩
      have bR := (unhide HR).keep hb
      have z0 : w2.cell? ⟨w.heap.size, 0, none⟩ = some (.int .i64 0) := bR.at 0 _ rfl
      have z1 : w2.cell? ⟨w.heap.size, 1, none⟩ = some (.int .i64 0) := bR.at 1 _ rfl
      have f0 := bR.soft 0
      have f1 := bR.soft 1
      have l0 := bR.lt
      have HB9 := hide ((unhide HB).trans (hb.mono (unhide HB).size))
      clear hb bR HB HR HN
      generalize near cs q = nr at *
      generalize nearS cs q = ns at *
      go_wp2_with fail
      refine bodyPost_ret (v := .agg #[.int .i64 0, .int .i64 nr]) (by simp [results, Try.results16, go_sem, z0, z1]) rfl ?_
      rw [unhide HG]
      exact ⟨[.int .i64 0, .int .i64 nr], rfl, own_intR (by decide) (wf_of_bd (by omega)), ((unhide HB9).setCell (by simp) _).setCell (by simp) _⟩
    · have HG : Hid (nearestR cs q = ⟨vecFault q, 0⟩) := by
        show nearestR cs q = _
        rw [nearestR, if_pos hf, if_neg hfq]
      have hd : (vecFault q != 0) = true := by simpa using hfq
      have HC : Hid ((Lit.int .i64 (vecFault q)).wf = true) := wf_of_bd (by have := vecFault_bd q; omega)
      clear hf hfq HQ H
      go_wp2_with fail
      refine bodyPost_ret (v := .agg #[.int .i64 (vecFault q), .int .i64 0]) (by simp [results, Try.results16, go_sem, z0, z1]) rfl ?_
      rw [unhide HG]
      exact ⟨[.int .i64 (vecFault q), .int .i64 0], rfl, own_intR (unhide HC) (by decide), ((unhide HB).setCell (by simp) _).setCell (by simp) _⟩
  · have HG : Hid (nearestR cs q = ⟨centersFault cs, 0⟩) := by
      show nearestR cs q = _
      rw [nearestR, if_neg hf]
    have hd : (centersFault cs != 0) = true := by simpa using hf
    clear hf HQ H
    go_wp2_with fail
    refine bodyPost_ret (v := .agg #[.int .i64 (centersFault cs), .int .i64 0]) (by simp [results, Try.results16, go_sem, z0, z1]) rfl ?_
    rw [unhide HG]
    exact ⟨[.int .i64 (centersFault cs), .int .i64 0], rfl, own_intR (centersFault_wf cs) (by decide), ((unhide HB).setCell (by simp) _).setCell (by simp) _⟩

end Go.Proofs.Ytggnnbdjihihiaa

namespace Go.Proofs.Ytggnnbdjihihiaa
open Go.RowKit

/-- Any part of a list of numbers that stands in memory. -/
theorem part_readsI {w : World} {b off cap : Nat} {zs : List Int} (h : (Lay.sl Lay.int).Reads w [.slice (some ⟨b, off, none⟩) zs.length cap] zs) (m n c : Nat) (hm : m + n ≤ zs.length) (hc : n ≤ c) :
    (Lay.sl Lay.int).Reads w [.slice (some ⟨b, off + m, none⟩) n c] ((zs.drop m).take n) := by
  have hi := Lay.ints_reads h
  have hbig := h.big
  obtain ⟨ao, cp, e, hwf, hcs⟩ := hi
  have hlen : ((zs.drop m).take n).length = n := by simp; omega
  refine Lay.reads_ints ?_ (fun ao' cap' e' => ?_) (by rw [hlen]; omega)
  · refine ⟨_, c, by rw [hlen], fun z hz => hwf z (List.mem_of_mem_drop (List.mem_of_mem_take hz)), fun hp => ⟨b, off + m, rfl, fun j hj => ?_⟩⟩
    rw [hlen] at hp hj
    obtain ⟨b', off', hao, hc1⟩ := hcs (by omega)
    simp only [Value.slice.injEq] at e
    obtain ⟨rfl, -, -⟩ := e
    simp only [Option.some.injEq, Addr.mk.injEq, and_true] at hao
    obtain ⟨rfl, rfl⟩ := hao
    rw [Nat.add_assoc, hc1 (m + j) (by omega)]
    simp only [List.getD]
    rw [List.getElem?_take, if_pos hj, List.getElem?_drop]
  · simp only [Value.slice.injEq] at e'
    rw [hlen]
    omega
/-- The first numbers of a list. -/
theorem take_readsI {w : World} {ao : Option Addr} {n cap : Nat} {zs : List Int} (h : (Lay.sl Lay.int).Reads w [.slice ao n cap] zs) (k : Nat) (hk : k ≤ zs.length) :
    (Lay.sl Lay.int).Reads w [.slice ao k cap] (zs.take k) := by
  have hc := h.cap
  by_cases h0 : k = 0
  · subst h0
    rw [List.take_zero]
    exact Lay.reads_ints ⟨ao, cap, rfl, by simp, fun hp => by simp at hp⟩ (fun _ _ _ => by simp) (by simp)
  · have hi := Lay.ints_reads h
    obtain ⟨ao', cp, e, hwf, hcs⟩ := hi
    obtain ⟨b', off', hao, hc1⟩ := hcs (by omega)
    simp only [Value.slice.injEq] at e
    obtain ⟨rfl, rfl, rfl⟩ := e
    subst hao
    have := part_readsI h 0 k cap (by omega) (by omega)
    simpa using this

end Go.Proofs.Ytggnnbdjihihiaa
