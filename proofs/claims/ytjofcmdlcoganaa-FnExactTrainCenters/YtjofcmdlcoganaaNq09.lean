/-
  Texts of this proof in one: SpecNear, MeanModel, SpecIntsB, SpecMean6.
  Their conditions stand in their theorems.
-/
import Derived.Test.YtjofcmdlcoganaaChecked
import Derived.Test.YtjofcmdlcoganaaNq05
import Derived.Test.YtjofcmdlcoganaaNq06
import Derived.Test.YtjofcmdlcoganaaNq08
import Derived.Deep.RegionHeld3
import Derived.Test.YtjofcmdlcoganaaNq07
import Derived.Test.YtjofcmdlcoganaaNq02
import Derived.Deep.RegionLaw
import Derived.Deep.AppendLies
import Derived.Laws.Pointers
import Derived.BigQuiet
import Derived.Deep.QuietTactic
import Derived.WalkSmall

namespace Go.Proofs.Ytjofcmdlcoganaa
open Go.RowKit

set_option maxRecDepth 100000 in
set_option maxHeartbeats 2000000 in
theorem specNear_pos (b off cap : Nat) (cs : List DCenter) (a2 : Option Addr) (d2 : Nat) (q : List Int) (w : World) (h : (Lay.sl Lay.tCenter).Reads w [.slice (some ⟨b, off, none⟩) cs.length cap] cs) (hbl : b < w.heap.size) (hq : IsInts w (.slice a2 q.length d2) q) (hc0 : centersFault cs = 0) (hv : vecFault q = 0) :
    Calls Try.prog 65 #[.slice (some ⟨b, off, none⟩) cs.length cap, .slice a2 q.length d2] w fun e w' => e = .returned (.int .i64 (near cs q : Nat)) ∧ Below w.heap.size w w' := by
  obtain ⟨hn, hall⟩ := centersFault_zero hc0
  have HQ := hide hq
  have HA := hide hall
  have HV := hide hv
  have H := hide h
  have HN : Hid (near cs q = (nearK cs q cs.length).1) := rfl
  have H1 : Hid (nearK cs q 1 = (0, score3 cs[0].vec q)) := by
    show nearK cs q 1 = _
    have hs := cscore_bd (hall cs[0] (List.getElem_mem (by omega))) hv
    rw [nearK_step cs q 0 (by omega), if_pos (by simp only [nearK]; omega)]
  clear h hq hall hc0 hv
  go_enter Try.func65, Try.ntmps65
  go_wp2_with fail
  go_loopw [5, 6] (fun a i wr => ∃ k : Nat, 1 ≤ k ∧ k ≤ cs.length ∧ i = .int .i64 k ∧ a = .int .i64 ((nearK cs q k).1 : Nat) ∧ Below w.heap.size w wr) (fun _ i _ => cs.length - (intOf i).toNat)
  case atStart => exact ⟨1, Nat.le_refl _, hn.1, rfl, by rw [unhide H1]; rfl, Below.refl _ _⟩
  case round =>
    obtain ⟨k, hk1, hk, rfl, rfl, hB⟩ := hrel
    clear H1
    by_cases hlt : k < cs.length
    · obtain ⟨row, hc, hr⟩ := Lay.row_at (unhide H) hlt
      obtain ⟨a1, d1, rfl, R1⟩ := open_Center hr
      have c1 : w.cell? ⟨b, off + k, none⟩ = some (.slice a1 (cs[k]).vec.length d1) := cen_cell (hc 0 (by decide))
      have HS := hide (nearK_step cs q k hlt)
      obtain ⟨hm1, hm2, -, -⟩ := nearK_right (unhide HA) (unhide HV) k hk1 hk
      have hm3 : (nearK cs q k).1 < cs.length := by omega
      rw [getD_at hm3] at hm2
      obtain ⟨row2, hc2, hr2⟩ := Lay.row_at (unhide H) hm3
      obtain ⟨a3, d3, rfl, R2⟩ := open_Center hr2
      have c2 : w.cell? ⟨b, off + (nearK cs q k).1, none⟩ = some (.slice a3 (cs[(nearK cs q k).1]).vec.length d3) := cen_cell (hc2 0 (by decide))
      have hvx := unhide HA cs[k] (List.getElem_mem hlt)
      have hvy := unhide HA cs[(nearK cs q k).1] (List.getElem_mem hm3)
      clear hc hr hc2 hr2
      generalize hx : cs[k] = x at *
      clear hx
      generalize hy : cs[(nearK cs q k).1] = y at *
      clear hy
      generalize hs : nearK cs q k = s at *
      clear hs
      obtain ⟨m, sl⟩ := s
      simp only at hm1 hm2 hm3 c2 ⊢
      have HM2 := hide hm2
      have I1 := hide (Lay.ints_reads R1)
      have I2 := hide (Lay.ints_reads R2)
      have HX := hide hvx
      have HY := hide hvy
      have HB := hide hB
      clear R1 R2 hB hvx hvy hm2
      have i1 : (0 : Int) ≤ (k : Int) := by omega
      have i2 : (k : Int) < (cs.length : Int) := by omega
      have i3 : (0 : Int) ≤ (m : Int) := by omega
      have i4 : (m : Int) < (cs.length : Int) := by omega
      go_wp2_with fail
      refine wp_region_noPanic ?_
      refine wp_region_held_drew (S := fun w' => Below w.heap.size w w') (by kernel_rfl) (unhide HB).drew (fun hHeld => ?_)
      generalize wr.drew = wD at hHeld ⊢
      refine wpAnyH_take (i := 0) (oi := { dst := some 13, op := Go.Op.move (Go.Operand.tmp 0), type := 28, pos := "l06_center.go:24", after := #[], guard := none }) (v := ?v0) rfl (by kernel_rfl) (by kernel_rfl) (by kernel_rfl) (fun _ _ _ h => h) (Or.inl ⟨by rfl, ?h0⟩) hHeld ?r0
      case h0 =>
        intro wS hSw
        (try dsimp only at hSw)
        go_simp
        try with_reducible rfl
      case r0 =>
      simp only [Act.put, List.setIfInBounds_toArray, List.set_cons_zero, List.set_cons_succ]
      refine wpAnyH_take (i := 1) (oi := { dst := some 14, op := Go.Op.move (Go.Operand.tmp 6), type := 3, pos := "l06_center.go:24", after := #[], guard := none }) (v := ?v1) rfl (by kernel_rfl) (by kernel_rfl) (by kernel_rfl) (fun _ _ _ h => h) (Or.inl ⟨by rfl, ?h1⟩) hHeld ?r1
      case h1 =>
        intro wS hSw
        (try dsimp only at hSw)
        go_simp
        try with_reducible rfl
      case r1 =>
      simp only [Act.put, List.setIfInBounds_toArray, List.set_cons_zero, List.set_cons_succ]
      refine wpAnyH_take (i := 2) (oi := { dst := some 15, op := Go.Op.indexAddr 28 (Go.Operand.tmp 13) (Go.Operand.tmp 14), type := 0, pos := "l06_center.go:24", after := #[{ on := 0, ground := Go.Ground.data }, { on := 1, ground := Go.Ground.data }], guard := none }) (v := ?v2) rfl (by kernel_rfl) (by kernel_rfl) (by kernel_rfl) (fun _ _ _ h => h) (Or.inl ⟨by rfl, ?h2⟩) hHeld ?r2
      case h2 =>
        intro wS hSw
        (try dsimp only at hSw)
        go_simp
        try with_reducible rfl
      case r2 =>
      simp only [Act.put, List.setIfInBounds_toArray, List.set_cons_zero, List.set_cons_succ]
      refine wpAnyH_take (i := 3) (oi := { dst := some 16, op := Go.Op.fieldAddr 77 (Go.Operand.tmp 15) 0, type := 0, pos := "l06_center.go:24", after := #[{ on := 2, ground := Go.Ground.data }], guard := none }) (v := ?v3) rfl (by kernel_rfl) (by kernel_rfl) (by kernel_rfl) (fun _ _ _ h => h) (Or.inl ⟨by rfl, ?h3⟩) hHeld ?r3
      case h3 =>
        intro wS hSw
        (try dsimp only at hSw)
        go_simp
        try with_reducible rfl
      case r3 =>
      simp only [Act.put, List.setIfInBounds_toArray, List.set_cons_zero, List.set_cons_succ]
      refine wpAnyH_take (i := 4) (oi := { dst := some 17, op := Go.Op.load 25 (Go.Operand.tmp 16), type := 25, pos := "l06_center.go:24", after := #[{ on := 3, ground := Go.Ground.data }], guard := none }) (v := ?v4) rfl (by kernel_rfl) (by kernel_rfl) (by kernel_rfl) (fun _ _ _ h => h) (Or.inl ⟨by rfl, ?h4⟩) hHeld ?r4
      case h4 =>
        intro wS hSw
        have y1 := (hSw.cell (p := ⟨b, off + k, none⟩) hbl).trans c1
        clear hSw
        (try dsimp only at hSw)
        go_simp
        try with_reducible rfl
      case r4 =>
      simp only [Act.put, List.setIfInBounds_toArray, List.set_cons_zero, List.set_cons_succ]
      refine wpAnyH_take (i := 5) (oi := { dst := some 18, op := Go.Op.move (Go.Operand.tmp 1), type := 25, pos := "l06_center.go:24", after := #[], guard := none }) (v := ?v5) rfl (by kernel_rfl) (by kernel_rfl) (by kernel_rfl) (fun _ _ _ h => h) (Or.inl ⟨by rfl, ?h5⟩) hHeld ?r5
      case h5 =>
        intro wS hSw
        (try dsimp only at hSw)
        go_simp
        try with_reducible rfl
      case r5 =>
      simp only [Act.put, List.setIfInBounds_toArray, List.set_cons_zero, List.set_cons_succ]
      refine wpAnyH_take (i := 7) (oi := { dst := some 20, op := Go.Op.move (Go.Operand.tmp 0), type := 28, pos := "l06_center.go:24", after := #[], guard := none }) (v := ?v7) rfl (by kernel_rfl) (by kernel_rfl) (by kernel_rfl) (fun _ _ _ h => h) (Or.inl ⟨by rfl, ?h7⟩) hHeld ?r7
      case h7 =>
        intro wS hSw
        (try dsimp only at hSw)
        go_simp
        try with_reducible rfl
      case r7 =>
      simp only [Act.put, List.setIfInBounds_toArray, List.set_cons_zero, List.set_cons_succ]
      refine wpAnyH_take (i := 8) (oi := { dst := some 21, op := Go.Op.move (Go.Operand.tmp 5), type := 3, pos := "l06_center.go:24", after := #[], guard := none }) (v := ?v8) rfl (by kernel_rfl) (by kernel_rfl) (by kernel_rfl) (fun _ _ _ h => h) (Or.inl ⟨by rfl, ?h8⟩) hHeld ?r8
      case h8 =>
        intro wS hSw
        (try dsimp only at hSw)
        go_simp
        try with_reducible rfl
      case r8 =>
      simp only [Act.put, List.setIfInBounds_toArray, List.set_cons_zero, List.set_cons_succ]
      refine wpAnyH_take (i := 9) (oi := { dst := some 22, op := Go.Op.indexAddr 28 (Go.Operand.tmp 20) (Go.Operand.tmp 21), type := 0, pos := "l06_center.go:24", after := #[{ on := 7, ground := Go.Ground.data }, { on := 8, ground := Go.Ground.data }], guard := none }) (v := ?v9) rfl (by kernel_rfl) (by kernel_rfl) (by kernel_rfl) (fun _ _ _ h => h) (Or.inl ⟨by rfl, ?h9⟩) hHeld ?r9
      case h9 =>
        intro wS hSw
        (try dsimp only at hSw)
        go_simp
        try with_reducible rfl
      case r9 =>
      simp only [Act.put, List.setIfInBounds_toArray, List.set_cons_zero, List.set_cons_succ]
      refine wpAnyH_take (i := 10) (oi := { dst := some 23, op := Go.Op.fieldAddr 77 (Go.Operand.tmp 22) 0, type := 0, pos := "l06_center.go:24", after := #[{ on := 9, ground := Go.Ground.data }], guard := none }) (v := ?v10) rfl (by kernel_rfl) (by kernel_rfl) (by kernel_rfl) (fun _ _ _ h => h) (Or.inl ⟨by rfl, ?h10⟩) hHeld ?r10
      case h10 =>
        intro wS hSw
        (try dsimp only at hSw)
        go_simp
        try with_reducible rfl
      case r10 =>
      simp only [Act.put, List.setIfInBounds_toArray, List.set_cons_zero, List.set_cons_succ]
      refine wpAnyH_take (i := 11) (oi := { dst := some 24, op := Go.Op.load 25 (Go.Operand.tmp 23), type := 25, pos := "l06_center.go:24", after := #[{ on := 10, ground := Go.Ground.data }], guard := none }) (v := ?v11) rfl (by kernel_rfl) (by kernel_rfl) (by kernel_rfl) (fun _ _ _ h => h) (Or.inl ⟨by rfl, ?h11⟩) hHeld ?r11
      case h11 =>
        intro wS hSw
        have y1 := (hSw.cell (p := ⟨b, off + m, none⟩) hbl).trans c2
        clear hSw
        (try dsimp only at hSw)
        go_simp
        try with_reducible rfl
      case r11 =>
      simp only [Act.put, List.setIfInBounds_toArray, List.set_cons_zero, List.set_cons_succ]
      refine wpAnyH_take (i := 12) (oi := { dst := some 25, op := Go.Op.move (Go.Operand.tmp 1), type := 25, pos := "l06_center.go:24", after := #[], guard := none }) (v := ?v12) rfl (by kernel_rfl) (by kernel_rfl) (by kernel_rfl) (fun _ _ _ h => h) (Or.inl ⟨by rfl, ?h12⟩) hHeld ?r12
      case h12 =>
        intro wS hSw
        (try dsimp only at hSw)
        go_simp
        try with_reducible rfl
      case r12 =>
      simp only [Act.put, List.setIfInBounds_toArray, List.set_cons_zero, List.set_cons_succ]
      refine wpAnyH_ready (rs := [6]) (by kernel_rfl) (by simp) ?_
      refine AllReadyH.cons (o := { dst := some 19, op := Go.Op.call { callee := Go.Callee.value (Go.Operand.func 86), args := #[Go.Operand.tmp 17, Go.Operand.tmp 18], argTypes := #[25, 25] }, type := 2, pos := "l06_center.go:24", after := #[{ on := 4, ground := Go.Ground.data }, { on := 5, ground := Go.Ground.data }], guard := none }) rfl (fun K hK => ?_) AllReadyH.nil
      go_simp
      go_at_call 86
      refine (modelScore3 _ _ x.vec q _ ((unhide I1).later hHeld) ((unhide HQ).later hHeld) (unhide HX) (unhide HV)).mono ?_
      rintro e w3 ⟨rfl, hbw⟩
      try go_wp2_with fail
      refine hK.out _ _ (hHeld.trans (hbw.mono hHeld.size)) (fun hHeld => ?_)
      clear hK K
      try simp only [Act.put, List.setIfInBounds_toArray, List.set_cons_zero, List.set_cons_succ]
      refine wpAnyH_ready (rs := [13]) (by kernel_rfl) (by simp) ?_
      refine AllReadyH.cons (o := { dst := some 26, op := Go.Op.call { callee := Go.Callee.value (Go.Operand.func 86), args := #[Go.Operand.tmp 24, Go.Operand.tmp 25], argTypes := #[25, 25] }, type := 2, pos := "l06_center.go:24", after := #[{ on := 11, ground := Go.Ground.data }, { on := 12, ground := Go.Ground.data }, { on := 6, ground := Go.Ground.chain }], guard := none }) rfl (fun K hK => ?_) AllReadyH.nil
      go_simp
      go_at_call 86
      refine (modelScore3 _ _ y.vec q _ ((unhide I2).later hHeld) ((unhide HQ).later hHeld) (unhide HY) (unhide HV)).mono ?_
      rintro e w3 ⟨rfl, hbw⟩
      try go_wp2_with fail
      refine hK.out _ _ (hHeld.trans (hbw.mono hHeld.size)) (fun hHeld => ?_)
      clear hK K
      try simp only [Act.put, List.setIfInBounds_toArray, List.set_cons_zero, List.set_cons_succ]
      refine wpAnyH_take (i := 14) (oi := { dst := some 27, op := Go.Op.binOp Go.BinOp.lss 2 (Go.Operand.tmp 19) (Go.Operand.tmp 26) 2, type := 4, pos := "l06_center.go:24", after := #[{ on := 6, ground := Go.Ground.data }, { on := 13, ground := Go.Ground.data }], guard := none }) (v := ?v14) rfl (by kernel_rfl) (by kernel_rfl) (by kernel_rfl) (fun _ _ _ h => h) (Or.inl ⟨by rfl, ?h14⟩) hHeld ?r14
      case h14 =>
        intro wS hSw
        (try dsimp only at hSw)
        go_simp
        try with_reducible rfl
      case r14 =>
      simp only [Act.put, List.setIfInBounds_toArray, List.set_cons_zero, List.set_cons_succ]
      refine wpAnyH_done (by kernel_rfl) ?_ _
      refine NoPanic.normal ?_
      have HB3 := hide hHeld
      clear hHeld c1 c2 HB I1 I2
      have hS2 := unhide HS
      rw [unhide HM2] at hS2
      have HS2 := hide hS2
      clear hS2 HS
      cases hd : decide (score3 x.vec q < score3 y.vec q) with
      | true =>
        have HS3 : Hid (nearK cs q (k + 1) = (k, score3 x.vec q)) := (unhide HS2).trans (if_pos (by simpa using hd))
        clear HS2
        go_wp2_with fail
        go_roundw
        case rel => exact ⟨k + 1, by omega, by omega, by go_num, by rw [unhide HS3], unhide HB3⟩
        case measure => simp [intOf]; omega
      | false =>
        have HS3 : Hid (nearK cs q (k + 1) = (m, score3 y.vec q)) := (unhide HS2).trans (if_neg (by simpa using hd))
        clear HS2
        go_wp2_with fail
        go_roundw
        case rel => exact ⟨k + 1, by omega, by omega, by go_num, by rw [unhide HS3], unhide HB3⟩
        case measure => simp [intOf]; omega
    · obtain rfl : k = cs.length := by omega
      have HB := hide hB
      clear hB H
      go_wp2_with fail
      go_ret
      exact ⟨rfl, unhide HB⟩

theorem specNear (v : Value) (cs : List DCenter) (vq : Value) (q : List Int) (w : World) (h : (Lay.sl Lay.tCenter).Reads w [v] cs) (hq : IsInts w vq q) (hc : centersFault cs = 0) (hv : vecFault q = 0) :
    Calls Try.prog 65 #[v, vq] w fun e w' => e = .returned (.int .i64 (near cs q : Nat)) ∧ Below w.heap.size w w' := by
  obtain ⟨ao, cap, rfl⟩ := open_sl h
  have hvq : ∃ a d, vq = .slice a q.length d := by obtain ⟨a, d, e, -⟩ := hq; exact ⟨a, d, e⟩
  obtain ⟨a2, d2, rfl⟩ := hvq
  obtain ⟨b, off, rfl, hbl⟩ := Lay.sl_addr h (centersFault_zero hc).1.1
  exact specNear_pos b off cap cs a2 d2 q w h hbl hq hc hv

end Go.Proofs.Ytjofcmdlcoganaa

namespace Go.Proofs.Ytjofcmdlcoganaa
open Go.RowKit

theorem modelMean_n (ao : Option Addr) (len cap : Nat) (n : Int) (w : World) (h : n < 1 ∨ 1000 < n) :
    Calls Try.prog 96 #[.slice ao len cap, .int .i64 n] w fun e w' => e = .returned (intsRes 3 (.slice none 0 0)) ∧ Below w.heap.size w w' := by
  by_cases h1 : n < 1
  · clear h
    go_enter Try.func96, Try.ntmps96
    go_wp2
    refine bodyPost_ret (v := intsRes 3 (.slice none 0 0)) (by simp [results, Try.results96, go_sem, intsRes]) rfl ⟨rfl, ?_⟩
    exact (Below.refl _ _).alloc (Nat.le_refl _) _
  · have h2 : 1000 < n := by omega
    have hd : decide (n ≤ 1000) = false := by simp; omega
    clear h
    go_enter Try.func96, Try.ntmps96
    go_wp2
    refine bodyPost_ret (v := intsRes 3 (.slice none 0 0)) (by simp [results, Try.results96, go_sem, intsRes]) rfl ⟨rfl, ?_⟩
    exact (Below.refl _ _).alloc (Nat.le_refl _) _

theorem modelMean_len (ao : Option Addr) (len cap : Nat) (n : Int) (w : World) (h1 : 1 ≤ n) (h2 : n ≤ 1000) (hl : len ≠ 3) :
    Calls Try.prog 96 #[.slice ao len cap, .int .i64 n] w fun e w' => e = .returned (intsRes 1 (.slice none 0 0)) ∧ Below w.heap.size w w' := by
  have hd : decide (n ≤ 1000) = true := by simp; omega
  have h3 : ((len : Int) != 3) = true := by rw [bne_iff_ne]; omega
  go_enter Try.func96, Try.ntmps96
  go_wp2
  refine bodyPost_ret (v := intsRes 1 (.slice none 0 0)) (by simp [results, Try.results96, go_sem, intsRes]) rfl ⟨rfl, ?_⟩
  exact (Below.refl _ _).alloc (Nat.le_refl _) _

set_option maxHeartbeats 400000 in
theorem modelMean_bad (b off cap : Nat) (zs : List Int) (n : Int) (w : World) (hbl : b < w.heap.size) (h1 : 1 ≤ n) (h2 : n ≤ 1000) (h : zs.length = 3) (hf : meanFault zs n ≠ 0) (hc : ∀ j, j < 3 → w.cell? ⟨b, off + j, none⟩ = some (.int .i64 (zs.getD j 0))) :
    Calls Try.prog 96 #[.slice (some ⟨b, off, none⟩) 3 cap, .int .i64 n] w fun e w' => e = .returned (intsRes 3 (.slice none 0 0)) ∧ Below w.heap.size w w' := by
  have hd : decide (n ≤ 1000) = true := by simp; omega
  have HF := hide hf
  clear hf
  go_enter Try.func96, Try.ntmps96
  go_wp2
  go_loop [5] (fun i => ∃ k : Nat, k ≤ 3 ∧ i = .int .i64 k ∧ ∀ j, j < k → sumB n (zs.getD j 0) = true) (fun i => 3 - (intOf i).toNat)
  case atStart => exact ⟨0, Nat.zero_le _, rfl, fun j hj => by omega⟩
  case round =>
    obtain ⟨k, hk, rfl, hg⟩ := hrel
    have HG := hide hg
    have HL := hide h
    clear hg h
    by_cases hlt : k < 3
    · have hcx : w.cell? ⟨b, off + k, none⟩ = some (.int .i64 (zs.getD k 0)) := hc k hlt
      obtain ⟨z, hz⟩ : ∃ z, z = zs.getD k 0 := ⟨_, rfl⟩
      rw [← hz] at hcx
      have HZ := hide hz
      clear hz hc
      cases hp : sumB n z with
      | true =>
        obtain ⟨hb1, hb2⟩ := sumB_true hp
        have hd2 : decide (z ≤ 1000 * n) = true := by simp; omega
        have HP := hide hp
        clear hp
        go_wp2
        go_round
        case rel =>
          refine ⟨k + 1, by omega, by go_num, fun j hj => ?_⟩
          by_cases hjk : j < k
          · exact unhide HG j hjk
          · rw [show j = k by omega, ← unhide HZ]; exact unhide HP
        case measure => simp [intOf]; omega
      | false =>
        have hb := sumB_false hp
        clear hp
        rcases hb with hb | hb
        · go_wp2
          refine bodyPost_ret (v := intsRes 3 (.slice none 0 0)) (by simp [results, Try.results96, go_sem, intsRes]) rfl ⟨rfl, ?_⟩
          exact (Below.refl _ _).alloc (Nat.le_refl _) _
        · have hb1 : -1000 * n ≤ z := by omega
          have hd2 : decide (z ≤ 1000 * n) = false := by simp; omega
          go_wp2
          refine bodyPost_ret (v := intsRes 3 (.slice none 0 0)) (by simp [results, Try.results96, go_sem, intsRes]) rfl ⟨rfl, ?_⟩
          exact (Below.refl _ _).alloc (Nat.le_refl _) _
    · exact absurd (meanFault_ok h1 h2 (unhide HL) (fun j hj => unhide HG j (by omega))) (unhide HF)

/-- What one round leaves: an appended slice is stored into the second cell of block B + 1. -/
theorem append_round {wr W' w1 W0 : World} {r v : Value} {B k T : Nat} {xs ys : List Value} {c : Value} (hal : Below wr.heap.size wr W') (hown : wr.ownsRow (B + 2) T 1 r k xs) (hgrow : W'.grownBy w1 r.ownBlock)
    (q0 : wr.cell? ⟨B + 1, 0, none⟩ = some c) (q1 : wr.cell? ⟨B + 1, 1, none⟩ = some r) (q2 : ∀ o, wr.frozen? ⟨B + 1, o, none⟩ = false) (hsz : B + 2 ≤ wr.heap.size) (hown1 : w1.ownsRow (B + 2) T 1 v (k + 1) ys) (hB : Below (B + 1) W0 wr) :
    (w1.setCell ⟨B + 1, 1, none⟩ v).cell? ⟨B + 1, 0, none⟩ = some c ∧ (w1.setCell ⟨B + 1, 1, none⟩ v).cell? ⟨B + 1, 1, none⟩ = some v ∧ (∀ o, (w1.setCell ⟨B + 1, 1, none⟩ v).frozen? ⟨B + 1, o, none⟩ = false) ∧
      (w1.setCell ⟨B + 1, 1, none⟩ v).ownsRow (B + 2) T 1 v (k + 1) ys ∧ B + 2 ≤ (w1.setCell ⟨B + 1, 1, none⟩ v).heap.size ∧ Below (B + 1) W0 (w1.setCell ⟨B + 1, 1, none⟩ v) := by
  have hl1 : some (B + 1) ≠ r.ownBlock := fun e => by have := (hown.lt _ e.symm).1; omega
  have s1 := hal.size
  have s2 := hgrow.size
  have f : ∀ o, w1.cell? ⟨B + 1, o, none⟩ = wr.cell? ⟨B + 1, o, none⟩ := fun o => (hgrow.cell_far ⟨B + 1, o, none⟩ (by simp; omega) hl1).trans (hal.cell (p := ⟨B + 1, o, none⟩) (by simp; omega))
  have g : ∀ o, w1.frozen? ⟨B + 1, o, none⟩ = false := fun o => ((hgrow.frozen_far ⟨B + 1, o, none⟩ (by simp; omega) hl1).trans (hal.frozen (p := ⟨B + 1, o, none⟩) (by simp; omega))).trans (q2 o)
  refine ⟨?_, ?_, fun o => ?_, ownsRow_setCell_below hown1 (by simp) _, ?_, ?_⟩
  · have e : (w1.setCell ⟨B + 1, 1, none⟩ v).cell? ⟨B + 1, 0, none⟩ = w1.cell? ⟨B + 1, 0, none⟩ := by apply World.cell?_setCell_other; simp
    rw [e, f 0, q0]
  · exact World.cell?_setCell_same _ _ _ ((f 1).trans q1)
  · simpa [go_sem] using g o
  · simp; omega
  · have h1 : Below (B + 1) W0 W' := hB.trans (hal.mono (by omega))
    exact (h1.grown hgrow (by omega) (fun k hk => by have := (hown.lt _ hk).1; omega)).setCell (by simp) _

theorem means_step (x y z n : Int) (k : Nat) (hk : k < 3) : ([mean x n, mean y n, mean z n].take (k + 1)).map (Value.int .i64) = ([mean x n, mean y n, mean z n].take k).map (Value.int .i64) ++ [.int .i64 (mean ([x, y, z].getD k 0) n)] := by
  rcases (show k = 0 ∨ k = 1 ∨ k = 2 by omega) with rfl | rfl | rfl <;> rfl

set_option maxRecDepth 100000 in
set_option maxHeartbeats 3200000 in
theorem modelMean_three (b off cap : Nat) (x y z n : Int) (w : World) (hbl : b < w.heap.size) (hc : ∀ j, j < 3 → w.cell? ⟨b, off + j, none⟩ = some (.int .i64 ([x, y, z].getD j 0)))
    (h1 : 1 ≤ n) (h2 : n ≤ 1000) (hb : ∀ j, j < 3 → -1000 * n ≤ [x, y, z].getD j 0 ∧ [x, y, z].getD j 0 ≤ 1000 * n) :
    Calls Try.prog 96 #[.slice (some ⟨b, off, none⟩) 3 cap, .int .i64 n] w fun e w' => ∃ v, e = .returned (intsRes 0 v) ∧
      w'.ownsRow w.heap.size 2 1 v 3 ([mean x n, mean y n, mean z n].map (Value.int .i64)) ∧ Below w.heap.size w w' := by
  obtain ⟨i0, hi0, hz0, hz1, hz2⟩ := info_parts info2
  have hd : decide (n ≤ 1000) = true := by simp; omega
  go_enter Try.func96, Try.ntmps96
  go_wp2
  go_loop [5] (fun i => ∃ k : Nat, k ≤ 3 ∧ i = .int .i64 k) (fun i => 3 - (intOf i).toNat)
  case atStart => exact ⟨0, Nat.zero_le _, rfl⟩
  case round =>
    obtain ⟨k, hk, rfl⟩ := hrel
    by_cases hlt : k < 3
    · have hcx : w.cell? ⟨b, off + k, none⟩ = some (.int .i64 ([x, y, z].getD k 0)) := hc k hlt
      obtain ⟨hb1, hb2⟩ := hb k hlt
      generalize [x, y, z].getD k 0 = s at *
      have hd2 : decide (s ≤ 1000 * n) = true := by simp; omega
      clear hc hb
      go_wp2
      go_round
      case rel => exact ⟨k + 1, by omega, by go_num⟩
      case measure => simp [intOf]; omega
    · obtain rfl : k = 3 := by omega
      go_wp2
      have hB0 : Below (w.heap.size + 1) ((w.alloc (.cells #[.int .i64 0, .slice none 0 0] 37)).alloc (.cells #[.int .i64 0, .slice none 0 0] 37)) ((w.alloc (.cells #[.int .i64 0, .slice none 0 0] 37)).alloc (.cells #[.int .i64 0, .slice none 0 0] 37)) := Below.refl _ _
      go_loopw [7] (fun i wr => ∃ (k : Nat) (r : Value), k ≤ 3 ∧ i = .int .i64 k ∧ wr.cell? ⟨w.heap.size + 1, 0, none⟩ = some (.int .i64 0) ∧ wr.cell? ⟨w.heap.size + 1, 1, none⟩ = some r ∧ (∀ o, wr.frozen? ⟨w.heap.size + 1, o, none⟩ = false) ∧
          wr.ownsRow (w.heap.size + 2) 2 1 r k (([mean x n, mean y n, mean z n].take k).map (Value.int .i64)) ∧ w.heap.size + 2 ≤ wr.heap.size ∧
          Below (w.heap.size + 1) ((w.alloc (.cells #[.int .i64 0, .slice none 0 0] 37)).alloc (.cells #[.int .i64 0, .slice none 0 0] 37)) wr)
        (fun i _ => 3 - (intOf i).toNat)
      case atStart => exact ⟨0, _, Nat.zero_le _, rfl, by simp [go_sem], by simp [go_sem], fun o => by simp [go_sem], World.ownsRow_nil _ _ _ _, by simp, hB0⟩
      case round =>
        obtain ⟨k, r, hk, rfl, q0, q1, q2, hown, hsz, hB⟩ := hrel
        clear hB0
        by_cases hlt : k < 3
        · obtain ⟨hb1, hb2⟩ := hb k hlt
          have hcx : wr.cell? ⟨b, off + k, none⟩ = some (.int .i64 ([x, y, z].getD k 0)) := by
            rw [hB.cell (by simp; omega)]
            have := hc k hlt
            simp [go_sem, hbl, this, show b < w.heap.size + 1 by omega]
          have HM := hide (means_step x y z n k hlt)
          have hl1 : r.ownBlock ≠ some (w.heap.size + 1) := fun e => by have := (hown.lt _ e).1; omega
          have hl2 : r.ownBlock ≠ some b := fun e => by have := (hown.lt _ e).1; omega
          have hk0 : (0 : Int) ≤ (k : Int) := Int.natCast_nonneg _
          have hk1 : (k : Int) < 3 := by omega
          have hlb : b < wr.heap.size := by omega
          have hlw : w.heap.size + 1 < wr.heap.size := by omega
          have q3 := q2 1
          have q4 : ∀ o : Obj, (wr.alloc o).frozen? ⟨w.heap.size + 1, 1, none⟩ = false := fun o => by rw [World.frozen?_of_block (Below.heap_alloc wr o (w.heap.size + 1) hlw)]; exact q3
          have q5 : ∀ o : Obj, (wr.alloc o).drew.frozen? ⟨w.heap.size + 1, 1, none⟩ = false := fun o => q4 o
          generalize [x, y, z].getD k 0 = s at *
          clear hc hb hi0 hz0 hz1 hz2
          obtain ⟨i0, hi0, hz0, hz1, hz2⟩ := info_parts info2
          have HB := hide hB
          clear hB
          go_wp2
          go_region_law (first
              | (go_simp; go_at_call 99; refine (modelRound s n _ h1 h2 hb1 hb2).mono ?_; rintro e w2 ⟨rfl, rfl⟩)
              | ((refine step_append_lies _ (by rfl) _ _ _ (by rfl) (w.heap.size + 2) 2 i0 _ 1 8 Try.underlying25 hi0 hz0 hz1 hz2 rfl (by omega) r k _ (by rfl) (by first | exact (hown.alloc _) | exact (hown.alloc _).drew | exact (hown.alloc _).drew.drew) ⟨wr.heap.size, 0, none⟩ 1 1 [.int .i64 (mean s n)] (by rfl) (by rfl) (World.news_of_block (cs := #[.int .i64 (mean s n)]) (t := 2) (fr := (0, 0)) (heap_alloc_new wr _)) (by simp [Value.oneCell']) (by omega) (by unfold maxLen; omega) (by omega) (by simp; omega) (wr.heap.size + 1) (by simp) ?_; intro gg cap2 w1 hown1 hgrow hat hlt2; have g0 := hgrow.cell_far ⟨w.heap.size + 1, 1, none⟩ (by simp; omega) (Ne.symm hl1); have g1 := hgrow.frozen_far ⟨w.heap.size + 1, 1, none⟩ (by simp; omega) (Ne.symm hl1))))
          all_goals
            have R := append_round (W0 := (w.alloc (.cells #[.int .i64 0, .slice none 0 0] 37)).alloc (.cells #[.int .i64 0, .slice none 0 0] 37)) (by first | exact ((Below.refl _ _).alloc (Nat.le_refl _) _) | exact ((Below.refl _ _).alloc (Nat.le_refl _) _).drew | exact ((Below.refl _ _).alloc (Nat.le_refl _) _).drew.drew) hown hgrow q0 q1 q2 hsz hown1 (unhide HB)
            have HR := hide R
            clear R hown hgrow q0 q1 q2 q3 q4 q5 hown1 hcx
            go_wp2
            go_roundw
            case rel => exact ⟨k + 1, _, by omega, by go_num, (unhide HR).1, (unhide HR).2.1, (unhide HR).2.2.1, by rw [unhide HM]; exact (unhide HR).2.2.2.1, (unhide HR).2.2.2.2.1, (unhide HR).2.2.2.2.2⟩
            case measure => simp [intOf]; omega
        · obtain rfl : k = 3 := by omega
          have z0 : wr.cell? ⟨w.heap.size, 0, none⟩ = some (.int .i64 0) := (hB.cell (p := ⟨w.heap.size, 0, none⟩) (by simp)).trans (by simp [go_sem])
          have z1 : wr.cell? ⟨w.heap.size, 1, none⟩ = some (.slice none 0 0) := (hB.cell (p := ⟨w.heap.size, 1, none⟩) (by simp)).trans (by simp [go_sem])
          have z2 : ∀ o, wr.frozen? ⟨w.heap.size, o, none⟩ = false := fun o => (hB.frozen (p := ⟨w.heap.size, o, none⟩) (by simp)).trans (by simp [go_sem])
          obtain ⟨g, cp, hr⟩ : ∃ g cp, r = .slice (some ⟨g, 0, none⟩) 3 cp := by
            rcases hown.2 with ⟨_, h0⟩ | ⟨g, cp, cur, h, _⟩
            · omega
            · exact ⟨g, cp, h⟩
          subst hr
          have hz3 : w.heap.size < wr.heap.size := by omega
          have HO := hide hown
          have HB := hide hB
          clear hown hB hc hb hi0 hz0 hz1 hz2
          go_wp2
          refine bodyPost_ret (v := intsRes 0 (.slice (some ⟨g, 0, none⟩) 3 cp)) (by simp [results, Try.results96, go_sem, intsRes, z0, z1]) rfl ⟨_, rfl, ?_, ?_⟩
          · exact ownsRow_setCell_below (ownsRow_setCell_below (unhide HO) (by simp) _) (by simp) _ |> own_mono (by omega)
          · exact (((((Below.refl w.heap.size w).alloc (Nat.le_refl _) _).alloc (by simp) _).trans ((unhide HB).mono (by omega))).setCell (by simp) _).setCell (by simp) _

/-- MeanOf of the model. -/
theorem modelMean (v : Value) (zs : List Int) (n : Int) (w : World) (h : IsInts w v zs) :
    Calls Try.prog 96 #[v, .int .i64 n] w fun e w' => ∃ r, e = .returned (intsRes (meanFault zs n) r) ∧
      w'.ownsRow w.heap.size 2 1 r (meanList zs n).length ((meanList zs n).map (Value.int .i64)) ∧ Below w.heap.size w w' := by
  have empty : ∀ e w', e = Ending.returned (intsRes (meanFault zs n) (.slice none 0 0)) ∧ Below w.heap.size w w' → meanFault zs n ≠ 0 →
      ∃ r, e = .returned (intsRes (meanFault zs n) r) ∧ w'.ownsRow w.heap.size 2 1 r (meanList zs n).length ((meanList zs n).map (Value.int .i64)) ∧ Below w.heap.size w w' := by
    rintro e w' ⟨rfl, hb⟩ hf
    have e : meanList zs n = [] := by simp [meanList, hf]
    rw [e]
    exact ⟨_, rfl, World.ownsRow_nil _ _ _ _, hb⟩
  have h' := h
  obtain ⟨ao, cap, rfl, hwf, hc⟩ := h'
  by_cases hn : n < 1 ∨ 1000 < n
  · have hf : meanFault zs n = 3 := meanFault_n hn
    rw [hf] at empty ⊢
    exact (modelMean_n ao zs.length cap n w hn).mono fun e w' hh => empty e w' hh (by decide)
  · by_cases h3 : zs.length = 3
    · obtain ⟨b, off, rfl, hc1⟩ := hc (by omega)
      have hbl : b < w.heap.size := World.block_lt_of_cell? _ _ (hc1 0 (by omega))
      by_cases hf : meanFault zs n = 0
      · obtain ⟨⟨h1, h2⟩, x, y, z, rfl, hx, hy, hz⟩ := meanFault_zero hf
        have e : meanList [x, y, z] n = [mean x n, mean y n, mean z n] := by simp [meanList, hf]
        rw [e, hf]
        refine modelMean_three b off cap x y z n w hbl (fun j hj => hc1 j hj) h1 h2 (fun j hj => ?_)
        rcases (show j = 0 ∨ j = 1 ∨ j = 2 by omega) with rfl | rfl | rfl
        · exact hx
        · exact hy
        · exact hz
      · have e3 : meanFault zs n = 3 := by
          have h0 : ¬ (n < 1 ∨ 1000 < n) := hn
          unfold meanFault at hf ⊢
          simp only [h0, h3, if_true, if_false] at hf ⊢
          split at hf <;> simp_all
        have hf' := hf
        rw [e3] at empty ⊢
        rw [h3] at hc1 ⊢
        exact (modelMean_bad b off cap zs n w hbl (by omega) (by omega) h3 hf hc1).mono fun e w' hh => empty e w' hh (by decide)
    · have hf : meanFault zs n = 1 := meanFault_len (by omega) (by omega) h3
      rw [hf] at empty ⊢
      exact (modelMean_len ao zs.length cap n w (by omega) (by omega) h3).mono fun e w' hh => empty e w' hh (by decide)

end Go.Proofs.Ytjofcmdlcoganaa

namespace Go.Proofs.Ytjofcmdlcoganaa
open Go.RowKit

set_option maxHeartbeats 400000 in
theorem l1Ints (v : Value) (zs : List Int) (w : World) (h : IsInts w v zs) (hn : zs.length ≤ 100000000) :
    Calls Try.prog 52 #[v] w fun e w' => ∃ v', e = .returned v' ∧ w'.ownsRow w.heap.size 2 1 v' zs.length (zs.map (Value.int .i64)) ∧ Below w.heap.size w w' := by
  have nb : Below w.heap.size w (w.alloc (.cells #[] 2)) := (Below.refl _ _).alloc (Nat.le_refl _) _
  have O : (w.alloc (.cells #[] 2)).ownsRow w.heap.size 2 1 (.slice (some ⟨w.heap.size, 0, none⟩) 0 0) 0 [] := World.ownsRow_lit w _ 0 (Nat.le_refl _) (by unfold maxLen; omega) rfl
  have h1 := h.later nb
  obtain ⟨ao, cap, rfl, -⟩ := h
  have HB := hide nb
  clear nb
  go_enter Try.func52, Try.ntmps52
  go_wp2_with (at_builtin; refine wpList_append_ints O h1 rfl _ _ rfl rfl rfl (by omega) (by simp) ?_)
  rintro v' w' O2 - hb
  have HB2 := hide ((unhide HB).trans hb)
  clear O h1 hb HB
  go_wp2_with fail
  go_ret
  exact ⟨v', rfl, by simpa using O2, unhide HB2⟩

end Go.Proofs.Ytjofcmdlcoganaa

namespace Go.Proofs.Ytjofcmdlcoganaa
open Go.RowKit

/-- The sums, where the first j parts are of one item more. -/
def mixF (cs : List DCenter) (xs : List DItem) (p k : Nat) (x : DItem) (j : Nat) : Nat → Int := fun q => if q < j then sumK cs xs p q k + x.vec.getD q 0 else sumK cs xs p q k
theorem mix_step (cs : List DCenter) (xs : List DItem) (p k : Nat) (x : DItem) (j : Nat) (_hj : j < 3) (q : Nat) : mixF cs xs p k x (j + 1) q = upd1 (mixF cs xs p k x j) j (mixF cs xs p k x j j + x.vec.getD j 0) q := by
  unfold mixF upd1
  by_cases h1 : q = j
  · subst h1
    rw [if_pos (by omega), if_pos rfl, if_neg (by omega)]
  · rw [if_neg h1]
    by_cases h2 : q < j
    · rw [if_pos (by omega)]
      exact (if_pos h2).symm
    · rw [if_neg (by omega)]
      exact (if_neg h2).symm
theorem isInts_sums {w : World} {g : Nat} {f : Nat → Int} (h : Sums1 w g 3 f) (hw : ∀ j, j < 3 → (Lit.int .i64 (f j)).wf = true) : IsInts w (.slice (some ⟨g, 0, none⟩) 3 3) [f 0, f 1, f 2] := by
  refine ⟨_, 3, rfl, ?_, fun _ => ⟨g, 0, rfl, fun j hj => ?_⟩⟩
  · intro z hz
    simp only [List.mem_cons, List.not_mem_nil, or_false] at hz
    rcases hz with rfl | rfl | rfl
    · exact hw 0 (by omega)
    · exact hw 1 (by omega)
    · exact hw 2 (by omega)
  · have hj3 : j < 3 := by simpa using hj
    rw [Nat.zero_add, h.cell j hj3]
    match j, hj3 with
    | 0, _ => rfl
    | 1, _ => rfl
    | 2, _ => rfl
theorem sums_new (w : World) : Sums1 (w.alloc (.cells #[.int .i64 0, .int .i64 0, .int .i64 0] 2)) w.heap.size 3 (fun _ => 0) := by
  refine ⟨by simp, fun o => by simp [go_sem], fun p hp => ?_⟩
  match p, hp with
  | 0, _ => simp [go_sem]
  | 1, _ => simp [go_sem]
  | 2, _ => simp [go_sem]

set_option maxRecDepth 100000 in
set_option maxHeartbeats 4000000 in
theorem specMean6_pos (b0 off0 cap0 : Nat) (cs : List DCenter) (ao : Option Addr) (cap : Nat) (xs : List DItem) (p : Nat) (w : World) (hcs : (Lay.sl Lay.tCenter).Reads w [.slice (some ⟨b0, off0, none⟩) cs.length cap0] cs) (hbl0 : b0 < w.heap.size) (h : (Lay.sl Lay.tItem).Reads w [.slice ao xs.length cap] xs) (hfc : centersFault cs = 0) (hft : tableFault xs = 0) (hp : p < cs.length) :
    Calls Try.prog 85 #[.slice (some ⟨b0, off0, none⟩) cs.length cap0, .slice ao xs.length cap, .int .i64 p] w fun e w' => ∃ v', e = .returned v' ∧ (Lay.sl Lay.int).OwnIn w' [v'] (meanAt cs xs p) w.heap.size w'.heap.size ∧ Below w.heap.size w w' := by
  obtain ⟨hlen, hall, -⟩ := tableFault_zero hft
  obtain ⟨⟨hn1, hn6⟩, hcv⟩ := centersFault_zero hfc
  have hxv : ∀ x ∈ xs, vecFault x.vec = 0 := fun x hm => (hall x hm).2
  have HXV := hide hxv
  have HCV := hide hcv
  have HFC := hide hfc
  have HFT := hide hft
  have HC := hide hcs
  have HX := hide h
  have HS0 := hide (sums_new w)
  have HB0 : Hid (Below w.heap.size w (w.alloc (.cells #[.int .i64 0, .int .i64 0, .int .i64 0] 2))) := (Below.refl _ _).alloc (Nat.le_refl _) _
  clear hcs h hall hxv hfc hft hcv
  go_enter Try.func85, Try.ntmps85
  go_wp2_with fail
  go_loopw [8, 9] (fun a i wr => ∃ k : Nat, k ≤ xs.length ∧ i = .int .i64 k ∧ a = .int .i64 (cntK cs xs p k) ∧ Sums1 wr w.heap.size 3 (fun j => sumK cs xs p j k) ∧ Below w.heap.size w wr) (fun _ i _ => xs.length - (intOf i).toNat)
  case atStart => exact ⟨0, Nat.zero_le _, rfl, rfl, unhide HS0, unhide HB0⟩
  case round =>
    obtain ⟨k, hk, rfl, rfl, hS, hB⟩ := hrel
    clear HS0 HB0
    by_cases hlt : k < xs.length
    · obtain ⟨b, off, rfl, hbl⟩ := Lay.sl_addr (unhide HX) (by omega)
      obtain ⟨row, hc, hr⟩ := Lay.row_at (unhide HX) hlt
      obtain ⟨a1, d1, rfl, R1⟩ := open_Item hr
      have c1 : w.cell? ⟨b, off + k * 2 + 1, none⟩ = some (.slice a1 (xs[k]).vec.length d1) := hc 1 (by decide)
      have hvx := unhide HXV xs[k] (List.getElem_mem hlt)
      have hcb := cntK_bd cs xs p k
      have hsb : ∀ j, j < 3 → -30000 ≤ sumK cs xs p j k ∧ sumK cs xs p j k ≤ 30000 := fun j hj => by have := sumK_bd cs (unhide HXV) p j hj k hk; omega
      have HST := hide (fun j => sumK_step cs xs p j k hlt)
      have HCT := hide (cntK_step cs xs p k hlt)
      clear hc hr
      generalize hx : xs[k] = x at *
      clear hx
      have hl3 := (vecFault_zero hvx).1
      have hvb := (vecFault_zero hvx).2
      obtain ⟨b3, off3, rfl, hbl3⟩ := Lay.sl_addr R1 (by omega)
      have I1 := Lay.ints_reads R1
      have hz : ∀ j, j < 3 → w.cell? ⟨b3, off3 + j, none⟩ = some (.int .i64 (x.vec.getD j 0)) := by
        obtain ⟨_, _, e, -, hcz⟩ := I1
        obtain ⟨b', o', e2, hcz⟩ := hcz (by omega)
        simp only [Value.slice.injEq] at e
        obtain ⟨rfl, -, -⟩ := e
        simp only [Option.some.injEq, Addr.mk.injEq, and_true] at e2
        obtain ⟨rfl, rfl⟩ := e2
        exact fun j hj => hcz j (by omega)
      have LN := hide (specNear _ cs _ x.vec wr ((unhide HC).later hB) (I1.later hB) (unhide HFC) hvx)
      have cr : wr.cell? ⟨b, off + k * 2 + 1, none⟩ = some (.slice (some ⟨b3, off3, none⟩) x.vec.length d1) := (hB.cell (p := ⟨b, off + k * 2 + 1, none⟩) hbl).trans c1
      rw [hl3] at LN c1 cr
      have HS := hide hS
      have HB := hide hB
      have HZ := hide hz
      have HVB := hide hvb
      have HSB := hide hsb
      clear hS hB I1 R1 hvx hz hl3 hvb hsb
      generalize hnr : near cs x.vec = nr at *
      clear hnr
      go_wp2_with fail
      refine (unhide LN).mono ?_
      rintro e w3 ⟨rfl, hb3⟩
      have HS3 := hide ((unhide HS).later hb3)
      have HB3 := hide ((unhide HB).trans (hb3.mono (unhide HB).size))
      clear hb3 LN HS HB cr
      by_cases he : nr = p
      · subst he
        have hd : (((nr : Nat) : Int) != ((nr : Nat) : Int)) = false := by simp
        have HST2 : Hid (∀ j, sumK cs xs nr j (k + 1) = sumK cs xs nr j k + x.vec.getD j 0) := fun j => (unhide HST j).trans (if_pos rfl)
        have HCT2 : Hid (cntK cs xs nr (k + 1) = cntK cs xs nr k + 1) := (unhide HCT).trans (if_pos rfl)
        clear HST HCT
        go_wp2_with fail
        clear hd
        rename World => wo
        go_loopw [10] (fun i wr => ∃ j : Nat, j ≤ 3 ∧ i = .int .i64 j ∧ Sums1 wr w.heap.size 3 (mixF cs xs nr k x j) ∧ Below w.heap.size w wr) (fun i _ => 3 - (intOf i).toNat)
        case atStart => exact ⟨0, Nat.zero_le _, rfl, (unhide HS3).same (fun q => if_neg (by omega)), unhide HB3⟩
        case round =>
          obtain ⟨j, hj, rfl, hS, hB⟩ := hrel
          clear HS3 HB3
          by_cases hlj : j < 3
          · have hvj := unhide HVB j hlj
            have hsj := unhide HSB j hlj
            have hmj : mixF cs xs nr k x j j = sumK cs xs nr j k := if_neg (by omega)
            rw [← hmj] at hsj
            have hSD : Sums1 wr.drew w.heap.size 3 (mixF cs xs nr k x j) := hS.drew
            have hBD : Below w.heap.size w wr.drew := hB.drew
            have c1D : wr.cell? ⟨b, off + k * 2 + 1, none⟩ = some (.slice (some ⟨b3, off3, none⟩) 3 d1) := (hB.cell (p := ⟨b, off + k * 2 + 1, none⟩) hbl).trans c1
            have czD : wr.cell? ⟨b3, off3 + j, none⟩ = some (.int .i64 (x.vec.getD j 0)) := (hB.cell (p := ⟨b3, off3 + j, none⟩) hbl3).trans (unhide HZ j hlj)
            have hzr := hB.size
            have ew : IntKind.i64.wrap (mixF cs xs nr k x j j + x.vec.getD j 0) = mixF cs xs nr k x j j + x.vec.getD j 0 := by simp only [IntKind.wrap_i64]; omega
            have hsc : wr.drew.cell? ⟨w.heap.size, j, none⟩ = some (.int .i64 (mixF cs xs nr k x j j)) := hS.cell j hlj
            have HMS := hide (mix_step cs xs nr k x j hlj)
            clear hS hB hmj
            generalize hmj : mixF cs xs nr k x j j = mj at *
            clear hmj
            generalize x.vec.getD j 0 = xj at *
            have i1 : (0 : Int) ≤ (j : Int) := by omega
            have i2 : (j : Int) < 3 := by omega
            have i3 : (0 : Int) ≤ (k : Int) := by omega
            have i4 : (k : Int) < (xs.length : Int) := by omega
            go_wp2_with fail
            refine wp_region_noPanic ?_
            refine wp_region_held_drew (S := fun w' => Ext (fun c => c = w.heap.size) wr w') (by kernel_rfl) (Ext.refl _ _).drewX (fun hHeld => ?_)
            generalize wr.drew = wD at hHeld hSD hBD hsc ⊢
            refine wpAnyH_take (i := 0) (oi := { dst := some 33, op := Go.Op.move (Go.Operand.tmp 7), type := 25, pos := "l06_center.go:84", after := #[], guard := none }) (v := ?v0_1) rfl (by kernel_rfl) (by kernel_rfl) (by kernel_rfl) (fun _ _ _ h => h) (Or.inl ⟨by rfl, ?h0_1⟩) hHeld ?r0_1
            case h0_1 =>
              intro wS hSw
              (try dsimp only at hSw)
              go_simp
              try with_reducible rfl
            case r0_1 =>
            simp only [Act.put, List.setIfInBounds_toArray, List.set_cons_zero, List.set_cons_succ]
            refine wpAnyH_take (i := 1) (oi := { dst := some 34, op := Go.Op.move (Go.Operand.tmp 10), type := 3, pos := "l06_center.go:84", after := #[], guard := none }) (v := ?v1_2) rfl (by kernel_rfl) (by kernel_rfl) (by kernel_rfl) (fun _ _ _ h => h) (Or.inl ⟨by rfl, ?h1_2⟩) hHeld ?r1_2
            case h1_2 =>
              intro wS hSw
              (try dsimp only at hSw)
              go_simp
              try with_reducible rfl
            case r1_2 =>
            simp only [Act.put, List.setIfInBounds_toArray, List.set_cons_zero, List.set_cons_succ]
            refine wpAnyH_take (i := 2) (oi := { dst := some 35, op := Go.Op.move (Go.Operand.tmp 7), type := 25, pos := "l06_center.go:84", after := #[], guard := none }) (v := ?v2_3) rfl (by kernel_rfl) (by kernel_rfl) (by kernel_rfl) (fun _ _ _ h => h) (Or.inl ⟨by rfl, ?h2_3⟩) hHeld ?r2_3
            case h2_3 =>
              intro wS hSw
              (try dsimp only at hSw)
              go_simp
              try with_reducible rfl
            case r2_3 =>
            simp only [Act.put, List.setIfInBounds_toArray, List.set_cons_zero, List.set_cons_succ]
            refine wpAnyH_take (i := 3) (oi := { dst := some 36, op := Go.Op.move (Go.Operand.tmp 10), type := 3, pos := "l06_center.go:84", after := #[], guard := none }) (v := ?v3_4) rfl (by kernel_rfl) (by kernel_rfl) (by kernel_rfl) (fun _ _ _ h => h) (Or.inl ⟨by rfl, ?h3_4⟩) hHeld ?r3_4
            case h3_4 =>
              intro wS hSw
              (try dsimp only at hSw)
              go_simp
              try with_reducible rfl
            case r3_4 =>
            simp only [Act.put, List.setIfInBounds_toArray, List.set_cons_zero, List.set_cons_succ]
            refine wpAnyH_take (i := 4) (oi := { dst := some 37, op := Go.Op.indexAddr 25 (Go.Operand.tmp 35) (Go.Operand.tmp 36), type := 0, pos := "l06_center.go:84", after := #[{ on := 2, ground := Go.Ground.data }, { on := 3, ground := Go.Ground.data }], guard := none }) (v := ?v4_5) rfl (by kernel_rfl) (by kernel_rfl) (by kernel_rfl) (fun _ _ _ h => h) (Or.inl ⟨by rfl, ?h4_5⟩) hHeld ?r4_5
            case h4_5 =>
              intro wS hSw
              (try dsimp only at hSw)
              go_simp
              try with_reducible rfl
            case r4_5 =>
            simp only [Act.put, List.setIfInBounds_toArray, List.set_cons_zero, List.set_cons_succ]
            refine wpAnyH_take (i := 6) (oi := { dst := some 39, op := Go.Op.move (Go.Operand.tmp 1), type := 24, pos := "l06_center.go:84", after := #[], guard := none }) (v := ?v6_6) rfl (by kernel_rfl) (by kernel_rfl) (by kernel_rfl) (fun _ _ _ h => h) (Or.inl ⟨by rfl, ?h6_6⟩) hHeld ?r6_6
            case h6_6 =>
              intro wS hSw
              (try dsimp only at hSw)
              go_simp
              try with_reducible rfl
            case r6_6 =>
            simp only [Act.put, List.setIfInBounds_toArray, List.set_cons_zero, List.set_cons_succ]
            refine wpAnyH_take (i := 7) (oi := { dst := some 40, op := Go.Op.move (Go.Operand.tmp 9), type := 3, pos := "l06_center.go:84", after := #[], guard := none }) (v := ?v7_7) rfl (by kernel_rfl) (by kernel_rfl) (by kernel_rfl) (fun _ _ _ h => h) (Or.inl ⟨by rfl, ?h7_7⟩) hHeld ?r7_7
            case h7_7 =>
              intro wS hSw
              (try dsimp only at hSw)
              go_simp
              try with_reducible rfl
            case r7_7 =>
            simp only [Act.put, List.setIfInBounds_toArray, List.set_cons_zero, List.set_cons_succ]
            refine wpAnyH_take (i := 8) (oi := { dst := some 41, op := Go.Op.indexAddr 24 (Go.Operand.tmp 39) (Go.Operand.tmp 40), type := 0, pos := "l06_center.go:84", after := #[{ on := 6, ground := Go.Ground.data }, { on := 7, ground := Go.Ground.data }], guard := none }) (v := ?v8_8) rfl (by kernel_rfl) (by kernel_rfl) (by kernel_rfl) (fun _ _ _ h => h) (Or.inl ⟨by rfl, ?h8_8⟩) hHeld ?r8_8
            case h8_8 =>
              intro wS hSw
              (try dsimp only at hSw)
              go_simp
              try with_reducible rfl
            case r8_8 =>
            simp only [Act.put, List.setIfInBounds_toArray, List.set_cons_zero, List.set_cons_succ]
            refine wpAnyH_take (i := 9) (oi := { dst := some 42, op := Go.Op.fieldAddr 41 (Go.Operand.tmp 41) 1, type := 0, pos := "l06_center.go:84", after := #[{ on := 8, ground := Go.Ground.data }], guard := none }) (v := ?v9_9) rfl (by kernel_rfl) (by kernel_rfl) (by kernel_rfl) (fun _ _ _ h => h) (Or.inl ⟨by rfl, ?h9_9⟩) hHeld ?r9_9
            case h9_9 =>
              intro wS hSw
              (try dsimp only at hSw)
              go_simp
              try with_reducible rfl
            case r9_9 =>
            simp only [Act.put, List.setIfInBounds_toArray, List.set_cons_zero, List.set_cons_succ]
            refine wpAnyH_take (i := 10) (oi := { dst := some 43, op := Go.Op.load 25 (Go.Operand.tmp 42), type := 25, pos := "l06_center.go:84", after := #[{ on := 9, ground := Go.Ground.data }], guard := none }) (v := ?v10_10) rfl (by kernel_rfl) (by kernel_rfl) (by kernel_rfl) (fun _ _ _ h => h) (Or.inl ⟨by rfl, ?h10_10⟩) hHeld ?r10_10
            case h10_10 =>
              intro wS hSw
              have y1 : wS.cell? ⟨b, off + k * 2 + 1, none⟩ = some (.slice (some ⟨b3, off3, none⟩) 3 d1) := (cell_of_heap (hSw.block b (by omega) (by omega)) _).trans c1D
              clear hSw
              (try dsimp only at hSw)
              go_simp
              try with_reducible rfl
            case r10_10 =>
            simp only [Act.put, List.setIfInBounds_toArray, List.set_cons_zero, List.set_cons_succ]
            refine wpAnyH_take (i := 11) (oi := { dst := some 44, op := Go.Op.move (Go.Operand.tmp 10), type := 3, pos := "l06_center.go:84", after := #[], guard := none }) (v := ?v11_11) rfl (by kernel_rfl) (by kernel_rfl) (by kernel_rfl) (fun _ _ _ h => h) (Or.inl ⟨by rfl, ?h11_11⟩) hHeld ?r11_11
            case h11_11 =>
              intro wS hSw
              (try dsimp only at hSw)
              go_simp
              try with_reducible rfl
            case r11_11 =>
            simp only [Act.put, List.setIfInBounds_toArray, List.set_cons_zero, List.set_cons_succ]
            refine wpAnyH_take (i := 12) (oi := { dst := some 45, op := Go.Op.indexAddr 25 (Go.Operand.tmp 43) (Go.Operand.tmp 44), type := 0, pos := "l06_center.go:84", after := #[{ on := 10, ground := Go.Ground.data }, { on := 11, ground := Go.Ground.data }], guard := none }) (v := ?v12_12) rfl (by kernel_rfl) (by kernel_rfl) (by kernel_rfl) (fun _ _ _ h => h) (Or.inl ⟨by rfl, ?h12_12⟩) hHeld ?r12_12
            case h12_12 =>
              intro wS hSw
              (try dsimp only at hSw)
              go_simp
              try with_reducible rfl
            case r12_12 =>
            simp only [Act.put, List.setIfInBounds_toArray, List.set_cons_zero, List.set_cons_succ]
            refine wpAnyH_take (i := 13) (oi := { dst := some 46, op := Go.Op.load 2 (Go.Operand.tmp 45), type := 2, pos := "l06_center.go:84", after := #[{ on := 12, ground := Go.Ground.data }], guard := none }) (v := ?v13_13) rfl (by kernel_rfl) (by kernel_rfl) (by kernel_rfl) (fun _ _ _ h => h) (Or.inl ⟨by rfl, ?h13_13⟩) hHeld ?r13_13
            case h13_13 =>
              intro wS hSw
              have y1 : wS.cell? ⟨b3, off3 + j, none⟩ = some (.int .i64 xj) := (cell_of_heap (hSw.block b3 (by omega) (by omega)) _).trans czD
              clear hSw
              (try dsimp only at hSw)
              go_simp
              try with_reducible rfl
            case r13_13 =>
            simp only [Act.put, List.setIfInBounds_toArray, List.set_cons_zero, List.set_cons_succ]
            refine wpAnyH_ready (rs := [5]) (by kernel_rfl) (by simp) ?_
            refine AllReadyH.cons (o := { dst := some 38, op := Go.Op.load 2 (Go.Operand.tmp 37), type := 2, pos := "l06_center.go:84", after := #[{ on := 4, ground := Go.Ground.data }], guard := none }) rfl (fun K hK => ?_) AllReadyH.nil
            go_simp
            refine hK.out _ _ hHeld (fun hHeld => ?_)
            clear hK K
            try simp only [Act.put, List.setIfInBounds_toArray, List.set_cons_zero, List.set_cons_succ]
            refine wpAnyH_take (i := 14) (oi := { dst := some 47, op := Go.Op.binOp Go.BinOp.add 2 (Go.Operand.tmp 38) (Go.Operand.tmp 46) 2, type := 2, pos := "l06_center.go:84", after := #[{ on := 5, ground := Go.Ground.data }, { on := 13, ground := Go.Ground.data }], guard := none }) (v := ?v14_14) rfl (by kernel_rfl) (by kernel_rfl) (by kernel_rfl) (fun _ _ _ h => h) (Or.inl ⟨by rfl, ?h14_14⟩) hHeld ?r14_14
            case h14_14 =>
              intro wS hSw
              (try dsimp only at hSw)
              go_simp
              try with_reducible rfl
            case r14_14 =>
            simp only [Act.put, List.setIfInBounds_toArray, List.set_cons_zero, List.set_cons_succ]
            refine wpAnyH_take (i := 15) (oi := { dst := some 48, op := Go.Op.indexAddr 25 (Go.Operand.tmp 33) (Go.Operand.tmp 34), type := 0, pos := "l06_center.go:84", after := #[{ on := 0, ground := Go.Ground.data }, { on := 1, ground := Go.Ground.data }, { on := 0, ground := Go.Ground.phase }, { on := 1, ground := Go.Ground.phase }, { on := 2, ground := Go.Ground.phase }, { on := 3, ground := Go.Ground.phase }, { on := 4, ground := Go.Ground.phase }, { on := 5, ground := Go.Ground.phase }, { on := 6, ground := Go.Ground.phase }, { on := 7, ground := Go.Ground.phase }, { on := 8, ground := Go.Ground.phase }, { on := 9, ground := Go.Ground.phase }, { on := 10, ground := Go.Ground.phase }, { on := 11, ground := Go.Ground.phase }, { on := 12, ground := Go.Ground.phase }, { on := 13, ground := Go.Ground.phase }, { on := 14, ground := Go.Ground.phase }], guard := none }) (v := ?v15_15) rfl (by kernel_rfl) (by kernel_rfl) (by kernel_rfl) (fun _ _ _ h => h) (Or.inl ⟨by rfl, ?h15_15⟩) hHeld ?r15_15
            case h15_15 =>
              intro wS hSw
              (try dsimp only at hSw)
              go_simp
              try with_reducible rfl
            case r15_15 =>
            simp only [Act.put, List.setIfInBounds_toArray, List.set_cons_zero, List.set_cons_succ]
            refine wpAnyH_ready (rs := [16]) (by kernel_rfl) (by simp) ?_
            refine AllReadyH.cons (o := { dst := none, op := Go.Op.store 2 (Go.Operand.tmp 48) (Go.Operand.tmp 47), type := 0, pos := "l06_center.go:84", after := #[{ on := 15, ground := Go.Ground.data }, { on := 14, ground := Go.Ground.data }, { on := 0, ground := Go.Ground.phase }, { on := 1, ground := Go.Ground.phase }, { on := 2, ground := Go.Ground.phase }, { on := 3, ground := Go.Ground.phase }, { on := 4, ground := Go.Ground.phase }, { on := 5, ground := Go.Ground.phase }, { on := 6, ground := Go.Ground.phase }, { on := 7, ground := Go.Ground.phase }, { on := 8, ground := Go.Ground.phase }, { on := 9, ground := Go.Ground.phase }, { on := 10, ground := Go.Ground.phase }, { on := 11, ground := Go.Ground.phase }, { on := 12, ground := Go.Ground.phase }, { on := 13, ground := Go.Ground.phase }, { on := 14, ground := Go.Ground.phase }], guard := none }) rfl (fun K hK => ?_) AllReadyH.nil
            have fz := hSD.soft
            have lg := hSD.lt
            go_simp
            refine hK.out _ _ (hHeld.setCell ⟨w.heap.size, j, none⟩ _ rfl) (fun hHeld => ?_)
            clear hK K
            try simp only [Act.put, List.setIfInBounds_toArray, List.set_cons_zero, List.set_cons_succ]
            refine wpAnyH_done (by kernel_rfl) ?_ _
            refine NoPanic.normal ?_
            have HS9 := hide ((hSD.set j hlj (mj + xj)).same (unhide HMS))
            have HB9 : Hid (Below w.heap.size w (wD.setCell ⟨w.heap.size, j, none⟩ (.int .i64 (mj + xj)))) := hBD.setCell (by simp) _
            clear hHeld hSD hBD c1D czD hsc
            go_wp2_with fail
            go_roundw
            case rel => exact ⟨j + 1, by omega, by go_num, unhide HS9, unhide HB9⟩
            case measure => simp [intOf]; omega
          · obtain rfl : j = 3 := by omega
            have HS9 := hide (hS.sameLt (f' := fun j => sumK cs xs nr j (k + 1)) (fun q hq => (unhide HST2 q).trans (if_pos hq).symm))
            have HB9 := hide hB
            clear hS hB
            go_wp2_with fail
            go_roundw
            case rel => exact ⟨k + 1, by omega, by go_num, by rw [unhide HCT2], unhide HS9, unhide HB9⟩
            case measure => simp [intOf]; omega
      · have hd : (((nr : Nat) : Int) != ((p : Nat) : Int)) = true := by rw [bne_iff_ne]; omega
        have HST2 : Hid (∀ j, sumK cs xs p j (k + 1) = sumK cs xs p j k) := fun j => (unhide HST j).trans (if_neg he)
        have HCT2 : Hid (cntK cs xs p (k + 1) = cntK cs xs p k) := (unhide HCT).trans (if_neg he)
        clear HST HCT
        go_wp2_with fail
        go_roundw
        case rel => exact ⟨k + 1, by omega, by go_num, by rw [unhide HCT2], (unhide HS3).same (fun q => unhide HST2 q), unhide HB3⟩
        case measure => simp [intOf]; omega
    · obtain rfl : k = xs.length := by omega
      have hwr : w.heap.size ≤ wr.heap.size := hB.size
      have hcb := cntK_bd cs xs p xs.length
      by_cases h0 : cntK cs xs p xs.length = 0
      · obtain ⟨row, hc, hr⟩ := Lay.row_at (unhide HC) hp
        obtain ⟨a1, d1, rfl, R1⟩ := open_Center hr
        have c1 : wr.cell? ⟨b0, off0 + p, none⟩ = some (.slice a1 (cs[p]).vec.length d1) := (hB.cell (p := ⟨b0, off0 + p, none⟩) hbl0).trans (cen_cell (hc 0 (by decide)))
        have hvy := unhide HCV cs[p] (List.getElem_mem hp)
        have hM : meanAt cs xs p = (cs[p]).vec := by rw [meanAt, if_pos (show cnt cs xs p = 0 from h0), getD_at hp]
        have HM := hide hM
        clear hc hr hM
        generalize hy : cs[p] = y at *
        clear hy
        have hl3 := (vecFault_zero hvy).1
        have I1 := (Lay.ints_reads R1).later hB
        have hwf : ∀ z ∈ y.vec, (Lit.int .i64 z).wf = true := by
          obtain ⟨_, _, _, hw, -⟩ := Lay.ints_reads R1
          exact hw
        have L := hide (l1Ints _ y.vec wr I1 (by omega))
        have HWF := hide hwf
        have HL3 := hide hl3
        have HB := hide hB
        have i1 : (0 : Int) ≤ (p : Int) := by omega
        have i2 : (p : Int) < (cs.length : Int) := by omega
        rw [h0]
        clear hwf R1 I1 hB hS h0 hcb hl3 hvy
        go_wp2_with fail
        refine (unhide L).mono ?_
        rintro e w9 ⟨v9, rfl, ho9, hb9⟩
        have HO9 := hide ((Lay.ownInts (unhide HWF) (by have := unhide HL3; omega) ho9).mono hwr (Nat.le_refl _))
        have HB9 := hide ((unhide HB).trans (hb9.mono (unhide HB).size))
        clear ho9 hb9 L c1 HB
        go_wp2_with fail
        go_ret
        exact ⟨_, rfl, by rw [unhide HM]; exact unhide HO9, unhide HB9⟩
      · obtain ⟨hmf, hc1, hc2⟩ := sums_right cs (unhide HFT) p h0
        have hM : meanAt cs xs p = meanList (sums cs xs p) (cnt cs xs p) := by rw [meanAt, if_neg (show ¬ cnt cs xs p = 0 from h0)]
        unfold cnt at hM
        have HM := hide hM
        have hwf : ∀ j, j < 3 → (Lit.int .i64 (sumK cs xs p j xs.length)).wf = true := fun j hj => wf_of_bd (by have := sumK_bd cs (unhide HXV) p j hj xs.length (Nat.le_refl _); omega)
        have LM := hide (modelMean _ (sums cs xs p) (cnt cs xs p) wr (isInts_sums hS hwf))
        rw [hmf] at LM
        have hd : (cntK cs xs p xs.length == 0) = false := by rw [beq_eq_false_iff_ne]; exact h0
        have HB := hide hB
        unfold cnt at LM
        clear hM hwf hB hS hmf h0 hcb hc1 hc2
        generalize cntK cs xs p xs.length = cn at *
        generalize sums cs xs p = sm at *
        go_wp2_with fail
        refine (unhide LM).mono ?_
        rintro e wa ⟨ra, rfl, hoa, hba⟩
        have hOa := Lay.ownInts (zs := meanList sm cn) meanList_bd (by have := meanList_len (zs := sm) (n := cn); omega) hoa
        obtain ⟨a9, c9, rfl⟩ := open_sl hOa.reads
        have HO9 := hide (hOa.mono (lo' := w.heap.size) hwr (Nat.le_refl _))
        have HB9 := hide ((unhide HB).trans (hba.mono (unhide HB).size))
        simp only [intsRes]
        clear hOa hoa hba LM HB
        have hfl : ∀ W : World, (Instr.field 37 (.agg #[.int .i64 0, .slice a9 (meanList sm cn).length c9]) 1).run Try.prog W = .ok (.slice a9 (meanList sm cn).length c9) W := fun _ => by kernel_rfl
        go_wp2_with fail
        go_ret
        exact ⟨_, rfl, by rw [unhide HM]; exact unhide HO9, unhide HB9⟩

theorem specMean6 (v : Value) (cs : List DCenter) (vx : Value) (xs : List DItem) (p : Nat) (w : World) (hcs : (Lay.sl Lay.tCenter).Reads w [v] cs) (h : (Lay.sl Lay.tItem).Reads w [vx] xs) (hfc : centersFault cs = 0) (hft : tableFault xs = 0) (hp : p < cs.length) :
    Calls Try.prog 85 #[v, vx, .int .i64 p] w fun e w' => ∃ v', e = .returned v' ∧ (Lay.sl Lay.int).OwnIn w' [v'] (meanAt cs xs p) w.heap.size w'.heap.size ∧ Below w.heap.size w w' := by
  obtain ⟨ao, cap, rfl⟩ := open_sl hcs
  obtain ⟨b, off, rfl, hbl⟩ := Lay.sl_addr hcs (centersFault_zero hfc).1.1
  obtain ⟨ao2, cap2, rfl⟩ := open_sl h
  exact specMean6_pos b off cap cs ao2 cap2 xs p w hcs hbl h hfc hft hp

end Go.Proofs.Ytjofcmdlcoganaa
