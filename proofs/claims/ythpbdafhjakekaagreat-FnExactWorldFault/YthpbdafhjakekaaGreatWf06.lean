/-
  Texts of this proof in one: SpecOnce, NodeEqs.
  Their conditions stand in their theorems.
-/
import Derived.Test.YthpbdafhjakekaaGreatWf05
import Derived.Deep.RegionHeld3
import Derived.Test.YthpbdafhjakekaaGreatWf03

namespace Go.Proofs.YthpbdafhjakekaaGreat
open Go.RowKit

theorem sl_take {α : Type} {A : Lay α} {w : World} {xs : List α} {b off cap : Nat} (h : (Lay.sl A).Reads w [.slice (some ⟨b, off, none⟩) xs.length cap] xs) (k : Nat) (hk : k ≤ xs.length) : (Lay.sl A).Reads w [.slice (some ⟨b, off, none⟩) k cap] (xs.take k) := by
  have hl : (xs.take k).length = k := by rw [List.length_take]; omega
  obtain ⟨bl, ao, cap', he, ⟨h1, h2⟩, hor⟩ := h
  simp only [List.cons.injEq, Value.slice.injEq, true_and, and_true] at he
  obtain ⟨rfl, rfl⟩ := he
  rcases hor with ⟨rfl, -⟩ | ⟨b', off', rows, bls, he, hb, -, n1, n2, hj⟩
  · obtain rfl : k = 0 := by simpa using hk
    exact ⟨[], _, _, rfl, ⟨by simp, by simp⟩, Or.inl ⟨rfl, rfl⟩⟩
  · simp only [Option.some.injEq, Addr.mk.injEq, and_true] at he
    obtain ⟨rfl, rfl⟩ := he
    refine ⟨b :: (bls.take k).flatten, _, _, by rw [hl], ⟨by omega, by omega⟩, Or.inr ⟨b, off, rows.take k, bls.take k, rfl, hb, rfl, by simp [n1], by simp [n2], fun j q1 q2 q3 => ?_⟩⟩
    simp only [List.getElem_take]
    rw [List.length_take] at q1 q2 q3
    exact hj j (by omega) (by omega) (by omega)

set_option maxRecDepth 10000 in
set_option maxHeartbeats 1000000 in
theorem l5Once_pos (b off cap : Nat) (ws : List DWrite) (w : World) (h : (Lay.sl Lay.tWrite).Reads w [.slice (some ⟨b, off, none⟩) ws.length cap] ws) (hn : ws.length ≤ 10000000) :
    Calls Tryz.prog 167 #[.slice (some ⟨b, off, none⟩) ws.length cap] w fun e w' => e = .returned (.bool (onceB [] ws)) ∧ Below w.heap.size w w' := by
  have H := hide h
  have hcap : ws.length ≤ cap := by obtain ⟨bl, ao, cap', he, ⟨h1, h2⟩, hor⟩ := h; simp only [List.cons.injEq, Value.slice.injEq, true_and, and_true] at he; omega
  clear h
  go_enter Tryz.func167, Tryz.ntmps167
  go_wp2_with fail
  go_loopw [3] (fun i wr => ∃ k : Nat, k ≤ ws.length ∧ i = .int .i64 k ∧ (∀ j (hj : j < ws.length), j < k → lastI ([] ++ ws.take j) (ws[j]).session < (ws[j]).seq) ∧ Below w.heap.size w wr) (fun i _ => ws.length - (intOf i).toNat)
  case atStart => exact ⟨0, Nat.zero_le _, rfl, fun j _ hj => by omega, Below.refl _ _⟩
  case round =>
    obtain ⟨k, hk, rfl, hz, hB⟩ := hrel
    by_cases hlt : k < ws.length
    · obtain ⟨row, hc, hr⟩ := Lay.row_at ((unhide H).later hB) hlt
      obtain ⟨a2, d2, rfl, R2⟩ := open_Write hr
      have c3 : wr.cell? ⟨b, off + k * 5 + 3, none⟩ = some (.int .i64 (ws[k]).session) := hc 3 (by decide)
      have c4 : wr.cell? ⟨b, off + k * 5 + 4, none⟩ = some (.int .i64 (ws[k]).seq) := hc 4 (by decide)
      have HP : Hid ((Lay.sl Lay.tWrite).Reads wr.drew [.slice (some ⟨b, off, none⟩) k cap] (ws.take k)) := sl_take ((unhide H).later hB.drew) k hk
      have HAT : Hid ((ws[k]).seq ≤ lastI (ws.take k) (ws[k]).session → onceB [] ws = false) := fun he => onceB_at ws [] k hlt (by simpa using he)
      have HZ2 : Hid (lastI (ws.take k) (ws[k]).session < (ws[k]).seq → ∀ j (hj : j < ws.length), j < k + 1 → lastI ([] ++ ws.take j) (ws[j]).session < (ws[j]).seq) := by
        intro h0 j hj hjk
        by_cases hjk2 : j < k
        · exact hz j hj hjk2
        · obtain rfl : j = k := by omega
          simpa using h0
      have HB := hide hB
      clear hc hr R2 hz hB
      generalize hx : ws[k] = x at *
      clear hx
      have c3 : wr.drew.cell? ⟨b, off + k * 5 + 3, none⟩ = some (.int .i64 x.session) := c3
      have c4 : wr.drew.cell? ⟨b, off + k * 5 + 4, none⟩ = some (.int .i64 x.seq) := c4
      have i1 : (0 : Int) ≤ (k : Int) := by omega
      have i2 : (k : Int) < (ws.length : Int) := by omega
      have i3 : (k : Int) ≤ (cap : Int) := by omega
      go_wp2_with fail
      refine wp_region_noPanic ?_
      refine wp_region_held_drew (S := fun w' => w' = wr.drew) (by kernel_rfl) rfl (fun hHeld => ?_)
      refine wpAnyH_take (i := 0) (oi := { dst := some 10, op := Go.Op.move (Go.Operand.tmp 0), type := 78, pos := "l05_session.go:87", after := #[], guard := none }) (v := ?v0) rfl (by kernel_rfl) (by kernel_rfl) (by kernel_rfl) (fun _ _ _ h => h) (Or.inl ⟨by rfl, ?h0⟩) hHeld ?r0
      case h0 =>
        intro wS hSw
        (try dsimp only at hSw)
        go_simp
        try with_reducible rfl
      case r0 =>
      simp only [Act.put, List.setIfInBounds_toArray, List.set_cons_zero, List.set_cons_succ]
      refine wpAnyH_take (i := 1) (oi := { dst := some 11, op := Go.Op.move (Go.Operand.tmp 3), type := 3, pos := "l05_session.go:87", after := #[], guard := none }) (v := ?v1) rfl (by kernel_rfl) (by kernel_rfl) (by kernel_rfl) (fun _ _ _ h => h) (Or.inl ⟨by rfl, ?h1⟩) hHeld ?r1
      case h1 =>
        intro wS hSw
        (try dsimp only at hSw)
        go_simp
        try with_reducible rfl
      case r1 =>
      simp only [Act.put, List.setIfInBounds_toArray, List.set_cons_zero, List.set_cons_succ]
      refine wpAnyH_take (i := 2) (oi := { dst := some 12, op := Go.Op.slice 78 (Go.Operand.tmp 10) none (some (Go.Operand.tmp 11)) none, type := 78, pos := "l05_session.go:87", after := #[{ on := 0, ground := Go.Ground.data }, { on := 1, ground := Go.Ground.data }], guard := none }) (v := ?v2) rfl (by kernel_rfl) (by kernel_rfl) (by kernel_rfl) (fun _ _ _ h => h) (Or.inl ⟨by rfl, ?h2⟩) hHeld ?r2
      case h2 =>
        intro wS hSw
        have y3 : wS.cell? ⟨b, off + k * 5 + 3, none⟩ = some (.int .i64 x.session) := by rw [hSw]; exact c3
        have y4 : wS.cell? ⟨b, off + k * 5 + 4, none⟩ = some (.int .i64 x.seq) := by rw [hSw]; exact c4
        clear hSw
        (try dsimp only at hSw)
        go_simp
        try with_reducible rfl
      case r2 =>
      simp only [Act.put, List.setIfInBounds_toArray, List.set_cons_zero, List.set_cons_succ]
      refine wpAnyH_take (i := 3) (oi := { dst := some 13, op := Go.Op.move (Go.Operand.tmp 0), type := 78, pos := "l05_session.go:87", after := #[], guard := none }) (v := ?v3) rfl (by kernel_rfl) (by kernel_rfl) (by kernel_rfl) (fun _ _ _ h => h) (Or.inl ⟨by rfl, ?h3⟩) hHeld ?r3
      case h3 =>
        intro wS hSw
        (try dsimp only at hSw)
        go_simp
        try with_reducible rfl
      case r3 =>
      simp only [Act.put, List.setIfInBounds_toArray, List.set_cons_zero, List.set_cons_succ]
      refine wpAnyH_take (i := 4) (oi := { dst := some 14, op := Go.Op.move (Go.Operand.tmp 3), type := 3, pos := "l05_session.go:87", after := #[], guard := none }) (v := ?v4) rfl (by kernel_rfl) (by kernel_rfl) (by kernel_rfl) (fun _ _ _ h => h) (Or.inl ⟨by rfl, ?h4⟩) hHeld ?r4
      case h4 =>
        intro wS hSw
        (try dsimp only at hSw)
        go_simp
        try with_reducible rfl
      case r4 =>
      simp only [Act.put, List.setIfInBounds_toArray, List.set_cons_zero, List.set_cons_succ]
      refine wpAnyH_take (i := 5) (oi := { dst := some 15, op := Go.Op.indexAddr 78 (Go.Operand.tmp 13) (Go.Operand.tmp 14), type := 0, pos := "l05_session.go:87", after := #[{ on := 3, ground := Go.Ground.data }, { on := 4, ground := Go.Ground.data }], guard := none }) (v := ?v5) rfl (by kernel_rfl) (by kernel_rfl) (by kernel_rfl) (fun _ _ _ h => h) (Or.inl ⟨by rfl, ?h5⟩) hHeld ?r5
      case h5 =>
        intro wS hSw
        have y3 : wS.cell? ⟨b, off + k * 5 + 3, none⟩ = some (.int .i64 x.session) := by rw [hSw]; exact c3
        have y4 : wS.cell? ⟨b, off + k * 5 + 4, none⟩ = some (.int .i64 x.seq) := by rw [hSw]; exact c4
        clear hSw
        (try dsimp only at hSw)
        go_simp
        try with_reducible rfl
      case r5 =>
      simp only [Act.put, List.setIfInBounds_toArray, List.set_cons_zero, List.set_cons_succ]
      refine wpAnyH_take (i := 6) (oi := { dst := some 16, op := Go.Op.fieldAddr 83 (Go.Operand.tmp 15) 3, type := 0, pos := "l05_session.go:87", after := #[{ on := 5, ground := Go.Ground.data }], guard := none }) (v := ?v6) rfl (by kernel_rfl) (by kernel_rfl) (by kernel_rfl) (fun _ _ _ h => h) (Or.inl ⟨by rfl, ?h6⟩) hHeld ?r6
      case h6 =>
        intro wS hSw
        (try dsimp only at hSw)
        go_simp
        try with_reducible rfl
      case r6 =>
      simp only [Act.put, List.setIfInBounds_toArray, List.set_cons_zero, List.set_cons_succ]
      refine wpAnyH_take (i := 7) (oi := { dst := some 17, op := Go.Op.load 2 (Go.Operand.tmp 16), type := 2, pos := "l05_session.go:87", after := #[{ on := 6, ground := Go.Ground.data }], guard := none }) (v := ?v7) rfl (by kernel_rfl) (by kernel_rfl) (by kernel_rfl) (fun _ _ _ h => h) (Or.inl ⟨by rfl, ?h7⟩) hHeld ?r7
      case h7 =>
        intro wS hSw
        have y3 : wS.cell? ⟨b, off + k * 5 + 3, none⟩ = some (.int .i64 x.session) := by rw [hSw]; exact c3
        have y4 : wS.cell? ⟨b, off + k * 5 + 4, none⟩ = some (.int .i64 x.seq) := by rw [hSw]; exact c4
        clear hSw
        (try dsimp only at hSw)
        go_simp
        try with_reducible rfl
      case r7 =>
      simp only [Act.put, List.setIfInBounds_toArray, List.set_cons_zero, List.set_cons_succ]
      refine wpAnyH_take (i := 9) (oi := { dst := some 19, op := Go.Op.move (Go.Operand.tmp 0), type := 78, pos := "l05_session.go:87", after := #[], guard := none }) (v := ?v9) rfl (by kernel_rfl) (by kernel_rfl) (by kernel_rfl) (fun _ _ _ h => h) (Or.inl ⟨by rfl, ?h9⟩) hHeld ?r9
      case h9 =>
        intro wS hSw
        (try dsimp only at hSw)
        go_simp
        try with_reducible rfl
      case r9 =>
      simp only [Act.put, List.setIfInBounds_toArray, List.set_cons_zero, List.set_cons_succ]
      refine wpAnyH_take (i := 10) (oi := { dst := some 20, op := Go.Op.move (Go.Operand.tmp 3), type := 3, pos := "l05_session.go:87", after := #[], guard := none }) (v := ?v10) rfl (by kernel_rfl) (by kernel_rfl) (by kernel_rfl) (fun _ _ _ h => h) (Or.inl ⟨by rfl, ?h10⟩) hHeld ?r10
      case h10 =>
        intro wS hSw
        (try dsimp only at hSw)
        go_simp
        try with_reducible rfl
      case r10 =>
      simp only [Act.put, List.setIfInBounds_toArray, List.set_cons_zero, List.set_cons_succ]
      refine wpAnyH_take (i := 11) (oi := { dst := some 21, op := Go.Op.indexAddr 78 (Go.Operand.tmp 19) (Go.Operand.tmp 20), type := 0, pos := "l05_session.go:87", after := #[{ on := 9, ground := Go.Ground.data }, { on := 10, ground := Go.Ground.data }], guard := none }) (v := ?v11) rfl (by kernel_rfl) (by kernel_rfl) (by kernel_rfl) (fun _ _ _ h => h) (Or.inl ⟨by rfl, ?h11⟩) hHeld ?r11
      case h11 =>
        intro wS hSw
        have y3 : wS.cell? ⟨b, off + k * 5 + 3, none⟩ = some (.int .i64 x.session) := by rw [hSw]; exact c3
        have y4 : wS.cell? ⟨b, off + k * 5 + 4, none⟩ = some (.int .i64 x.seq) := by rw [hSw]; exact c4
        clear hSw
        (try dsimp only at hSw)
        go_simp
        try with_reducible rfl
      case r11 =>
      simp only [Act.put, List.setIfInBounds_toArray, List.set_cons_zero, List.set_cons_succ]
      refine wpAnyH_take (i := 12) (oi := { dst := some 22, op := Go.Op.fieldAddr 83 (Go.Operand.tmp 21) 4, type := 0, pos := "l05_session.go:87", after := #[{ on := 11, ground := Go.Ground.data }], guard := none }) (v := ?v12) rfl (by kernel_rfl) (by kernel_rfl) (by kernel_rfl) (fun _ _ _ h => h) (Or.inl ⟨by rfl, ?h12⟩) hHeld ?r12
      case h12 =>
        intro wS hSw
        (try dsimp only at hSw)
        go_simp
        try with_reducible rfl
      case r12 =>
      simp only [Act.put, List.setIfInBounds_toArray, List.set_cons_zero, List.set_cons_succ]
      refine wpAnyH_take (i := 13) (oi := { dst := some 23, op := Go.Op.load 2 (Go.Operand.tmp 22), type := 2, pos := "l05_session.go:87", after := #[{ on := 12, ground := Go.Ground.data }], guard := none }) (v := ?v13) rfl (by kernel_rfl) (by kernel_rfl) (by kernel_rfl) (fun _ _ _ h => h) (Or.inl ⟨by rfl, ?h13⟩) hHeld ?r13
      case h13 =>
        intro wS hSw
        have y3 : wS.cell? ⟨b, off + k * 5 + 3, none⟩ = some (.int .i64 x.session) := by rw [hSw]; exact c3
        have y4 : wS.cell? ⟨b, off + k * 5 + 4, none⟩ = some (.int .i64 x.seq) := by rw [hSw]; exact c4
        clear hSw
        (try dsimp only at hSw)
        go_simp
        try with_reducible rfl
      case r13 =>
      simp only [Act.put, List.setIfInBounds_toArray, List.set_cons_zero, List.set_cons_succ]
      refine wpAnyH_ready (rs := [8]) (by kernel_rfl) (by simp) ?_
      refine AllReadyH.cons (o := { dst := some 18, op := Go.Op.call { callee := Go.Callee.value (Go.Operand.func 187), args := #[Go.Operand.tmp 12, Go.Operand.tmp 17], argTypes := #[78, 2] }, type := 2, pos := "l05_session.go:87", after := #[{ on := 2, ground := Go.Ground.data }, { on := 7, ground := Go.Ground.data }], guard := none }) rfl (fun K hK => ?_) AllReadyH.nil
      go_simp
      go_at_call 187
      refine (l5LastC _ (ws.take k) x.session _ (unhide HP) (by rw [List.length_take]; omega)).mono ?_
      rintro e w3 ⟨rfl, rfl⟩
      try go_wp2_with fail
      refine hK.out _ _ rfl (fun hHeld => ?_)
      clear hK K
      try simp only [Act.put, List.setIfInBounds_toArray, List.set_cons_zero, List.set_cons_succ]
      refine wpAnyH_take (i := 14) (oi := { dst := some 24, op := Go.Op.binOp Go.BinOp.geq 2 (Go.Operand.tmp 18) (Go.Operand.tmp 23) 2, type := 4, pos := "l05_session.go:87", after := #[{ on := 8, ground := Go.Ground.data }, { on := 13, ground := Go.Ground.data }], guard := none }) (v := ?v14) rfl (by kernel_rfl) (by kernel_rfl) (by kernel_rfl) (fun _ _ _ h => h) (Or.inl ⟨by rfl, ?h14⟩) hHeld ?r14
      case h14 =>
        intro wS hSw
        (try dsimp only at hSw)
        go_simp
        try with_reducible rfl
      case r14 =>
      simp only [Act.put, List.setIfInBounds_toArray, List.set_cons_zero, List.set_cons_succ]
      refine wpAnyH_done (by kernel_rfl) ?_ _
      refine NoPanic.normal ?_
      clear hHeld c3 c4
      by_cases hq : x.seq ≤ lastI (ws.take k) x.session
      · have hd : decide (x.seq ≤ lastI (ws.take k) x.session) = true := by simpa using hq
        have HG := hide (unhide HAT hq)
        have HB2 := hide (unhide HB).drew
        clear hq HAT HZ2 HP
        rw [hd]
        go_wp2_with fail
        go_ret
        exact ⟨by rw [unhide HG]; first | done | rfl, unhide HB2⟩
      · have hd : decide (x.seq ≤ lastI (ws.take k) x.session) = false := by simpa using hq
        have HZ := hide (unhide HZ2 (by omega))
        have HB2 := hide (unhide HB).drew
        clear hq HAT HZ2 HP
        rw [hd]
        go_wp2_with fail
        go_roundw
        case rel => exact ⟨k + 1, by omega, by go_num, unhide HZ, unhide HB2⟩
        case measure => simp [intOf]; omega
    · obtain rfl : k = ws.length := by omega
      have HG : Hid (onceB [] ws = true) := onceB_all ws [] fun j hj => hz j hj hj
      have HB := hide hB
      clear H hz hB
      go_wp2_with fail
      go_ret
      exact ⟨by rw [unhide HG]; first | done | rfl, unhide HB⟩

theorem l5OnceC (v : Value) (ws : List DWrite) (w : World) (h : (Lay.sl Lay.tWrite).Reads w [v] ws) (hn : ws.length ≤ 10000000) :
    Calls Tryz.prog 167 #[v] w fun e w' => e = .returned (.bool (onceB [] ws)) ∧ Below w.heap.size w w' := by
  obtain ⟨ao, cap, rfl⟩ := open_sl h
  by_cases hp : 0 < ws.length
  · obtain ⟨b, off, rfl, -⟩ := Lay.sl_addr h hp
    exact l5Once_pos b off cap ws w h hn
  · obtain rfl : ws = [] := List.eq_nil_of_length_eq_zero (by omega)
    clear h hn hp
    go_enter Tryz.func167, Tryz.ntmps167
    go_wp2_with fail
    refine wp_loop_rounds 1 ?_
    rw [rounds_succ]
    go_wp2_with fail
    go_ret
    exact ⟨rfl, Below.refl _ _⟩


end Go.Proofs.YthpbdafhjakekaaGreat

namespace Go.Proofs.YthpbdafhjakekaaGreat
open Go.RowKit

def takenF (ws : List DWrite) : Int := if 40 < ws.length then 2 else if wsFrom ws ≠ 0 then wsFrom ws else if onceB [] ws = false then 6 else 0
theorem takenF_vals (ws : List DWrite) : 0 ≤ takenF ws ∧ takenF ws ≤ 6 := by
  have := wsFrom_vals ws
  unfold takenF
  split
  · omega
  · split
    · omega
    · split <;> omega

def downB (x : DNode) : Bool := (x.sure == (x.writes.length : Int)) && (x.clean == 0 && x.lease == 0)
theorem nf_id {x : DNode} (h : (decide (1 ≤ x.id) && decide (x.id ≤ 5)) = false) : nodeFault x = 3 := by
  simp only [Bool.and_eq_false_iff, decide_eq_false_iff_not] at h
  rw [nodeFault, if_neg (by omega)]
theorem nf_epoch {x : DNode} (h : (decide (0 ≤ x.epoch) && decide (x.epoch ≤ 999)) = false) : nodeFault x = 3 := by
  simp only [Bool.and_eq_false_iff, decide_eq_false_iff_not] at h
  rw [nodeFault, if_neg (by omega)]
theorem nf_lease {x : DNode} (h : (decide (0 ≤ x.lease) && decide (x.lease ≤ 9999)) = false) : nodeFault x = 3 := by
  simp only [Bool.and_eq_false_iff, decide_eq_false_iff_not] at h
  rw [nodeFault, if_neg (by omega)]
theorem nf_rest {x : DNode} (h1 : (decide (1 ≤ x.id) && decide (x.id ≤ 5)) = true) (h2 : (decide (0 ≤ x.epoch) && decide (x.epoch ≤ 999)) = true) (h3 : (decide (0 ≤ x.lease) && decide (x.lease ≤ 9999)) = true) :
    nodeFault x = if takenF x.writes ≠ 0 then takenF x.writes else if (decide (0 ≤ x.sure) && decide (x.sure ≤ (x.writes.length : Int))) = true ∧ (decide (0 ≤ x.clean) && decide (x.clean ≤ x.sure)) = true then (if x.up = false ∧ downB x = false then 1 else 0) else 3 := by
  simp only [Bool.and_eq_true, decide_eq_true_eq] at *
  rw [nodeFault, if_pos (by omega), takenF]
  by_cases q1 : 40 < x.writes.length
  · simp only [if_pos q1]; rfl
  · simp only [if_neg q1]
    by_cases q2 : wsFrom x.writes ≠ 0
    · simp only [if_pos q2]
    · simp only [if_neg q2]
      by_cases q3 : onceB [] x.writes = false
      · simp only [if_pos q3]; rfl
      · simp only [if_neg q3]
        rw [if_neg (by simp : ¬ ((0 : Int) ≠ 0))]
        have e1 : (0 ≤ x.sure ∧ x.sure ≤ (x.writes.length : Int) ∧ 0 ≤ x.clean ∧ x.clean ≤ x.sure) ↔ ((0 ≤ x.sure ∧ x.sure ≤ (x.writes.length : Int)) ∧ 0 ≤ x.clean ∧ x.clean ≤ x.sure) := by constructor <;> (intro h; omega)
        have e2 : ¬ (x.sure = (x.writes.length : Int) ∧ x.clean = 0 ∧ x.lease = 0) ↔ downB x = false := by
          unfold downB
          rw [← Bool.not_eq_true]
          simp
        simp only [e1, e2]

end Go.Proofs.YthpbdafhjakekaaGreat
