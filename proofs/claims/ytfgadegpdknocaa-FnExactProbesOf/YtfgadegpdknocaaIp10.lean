/-
  The program's tableFrom: a new map that holds the items of a right table, or the table's fault; nothing old is written.
  No condition.
-/
import Derived.Test.YtfgadegpdknocaaChecked
import Derived.Test.YtfgadegpdknocaaIp09
import Derived.Deep.RegionHeld3

namespace Go.Proofs.Ytfgadegpdknocaa
open Go.RowKit

theorem vec3 {zs : List Int} (h : vecFault zs = 0) : ∃ p q r, zs = [p, q, r] := by
  have hl := (vecFault_zero h).1
  match zs, hl with
  | [p, q, r], _ => exact ⟨p, q, r, rfl⟩
theorem Ext.drew1 {S : Nat → Prop} {a b : World} (h : Ext S a b) : Ext S a b.drew := ⟨h.os, h.tape, h.output, h.size, h.block⟩

set_option maxRecDepth 10000 in
theorem tableFrom_bad (v : Value) (xs : List DItem) (w : World) (h : (Lay.sl Lay.tItem).Reads w [v] xs) (hf : tableFault xs ≠ 0) :
    Calls Try.prog 101 #[v] w fun e w' => e = .returned (.tuple #[.map none, .int .i64 (tableFault xs)]) ∧ Below w.heap.size w w' := by
  have L := hide (implTab v xs w h)
  obtain ⟨ao, cap, rfl⟩ := open_sl h
  have hd : (tableFault xs != 0) = true := by simpa using hf
  clear h hf
  go_enter Try.func101, Try.ntmps101
  go_wp2_with fail
  refine (unhide L).mono ?_
  rintro e w1 ⟨rfl, hb⟩
  have HB := hide hb
  clear hb L
  go_wp2_with fail
  refine bodyPost_ret (v := .tuple #[.map none, .int .i64 (tableFault xs)]) (by simp [results, Try.results101, go_sem]) rfl ?_
  exact ⟨rfl, unhide HB⟩

set_option maxRecDepth 10000 in
set_option maxHeartbeats 1000000 in
theorem tableFrom_zero (ao : Option Addr) (cap : Nat) (w : World) (h : (Lay.sl Lay.tItem).Reads w [.slice ao 0 cap] []) :
    Calls Try.prog 101 #[.slice ao 0 cap] w fun e w' => (∃ b, e = .returned (.tuple #[.map (some b), .int .i64 0]) ∧ w.heap.size ≤ b ∧ TabAt w' b 30 []) ∧ Below w.heap.size w w' := by
  have L := hide (implTab _ [] w h)
  clear h
  rw [show tableFault [] = 0 from rfl] at L
  have hmk : ∀ W : World, (Instr.makeMap 92 (some (.int .i64 0))).run Try.prog W = .ok (.map (some W.heap.size)) (W.alloc (.map #[] 0)) := fun W => by kernel_rfl
  go_enter Try.func101, Try.ntmps101
  go_wp2_with fail
  refine (unhide L).mono ?_
  rintro e w1 ⟨rfl, hb⟩
  have hz := hb.size
  have HT := hide ((tabAt_new w1).mono (Nat.zero_le 30))
  have HB := hide (hb.alloc hb.size (.map #[] 0))
  clear hb L
  go_wp2_with fail
  refine wp_loop_rounds 1 ?_
  rw [rounds_succ]
  go_wp2_with fail
  refine bodyPost_ret (v := .tuple #[.map (some w1.heap.size), .int .i64 0]) (by simp [results, Try.results101, go_sem]) rfl ?_
  exact ⟨⟨_, rfl, hz, unhide HT⟩, unhide HB⟩

set_option maxRecDepth 100000 in
set_option maxHeartbeats 4000000 in
theorem tableFrom_pos (b off cap : Nat) (xs : List DItem) (w : World) (h : (Lay.sl Lay.tItem).Reads w [.slice (some ⟨b, off, none⟩) xs.length cap] xs) (hbl : b < w.heap.size) (hf : tableFault xs = 0) :
    Calls Try.prog 101 #[.slice (some ⟨b, off, none⟩) xs.length cap] w fun e w' => (∃ q, e = .returned (.tuple #[.map (some q), .int .i64 0]) ∧ w.heap.size ≤ q ∧ TabAt w' q 30 xs) ∧ Below w.heap.size w w' := by
  have L := hide (implTab _ xs w h)
  rw [hf] at L
  obtain ⟨hlen, hall, hris⟩ := tableFault_zero hf
  have HA := hide hall
  have HI := hide hris
  have H := hide h
  clear h hall hris hf
  have hmk : ∀ W : World, (Instr.makeMap 92 (some (.int .i64 xs.length))).run Try.prog W = .ok (.map (some W.heap.size)) (W.alloc (.map #[] 0)) := fun W => by kernel_rfl
  go_enter Try.func101, Try.ntmps101
  go_wp2_with fail
  refine (unhide L).mono ?_
  rintro e w1 ⟨rfl, hb⟩
  have hz := hb.size
  have HT := hide (tabAt_new w1)
  have HB := hide (hb.alloc hb.size (.map #[] 0))
  clear hb L
  go_wp2_with fail
  clear hmk
  generalize w1.heap.size = B at *
  go_loopw [18] (fun i wr => ∃ k : Nat, k ≤ xs.length ∧ i = .int .i64 k ∧ TabAt wr B k (xs.take k) ∧ Below w.heap.size w wr) (fun i _ => xs.length - (intOf i).toNat)
  case atStart => exact ⟨0, Nat.zero_le _, rfl, unhide HT, unhide HB⟩
  case round =>
    obtain ⟨k, hk, rfl, hT, hB⟩ := hrel
    clear HT HB
    by_cases hlt : k < xs.length
    · obtain ⟨row, hc, hr⟩ := Lay.row_at (unhide H) hlt
      replace hr := hr.later hB
      obtain ⟨a1, d1, rfl, R1⟩ := open_Item hr
      have c0 : wr.cell? ⟨b, off + k * 2, none⟩ = some (.int .i64 (xs[k]).id) := (hB.cell (p := ⟨b, off + k * 2, none⟩) hbl).trans (hc 0 (by decide))
      have c1 : wr.cell? ⟨b, off + k * 2 + 1, none⟩ = some (.slice a1 (xs[k]).vec.length d1) := (hB.cell (p := ⟨b, off + k * 2 + 1, none⟩) hbl).trans (hc 1 (by decide))
      obtain ⟨hid, hvf⟩ := unhide HA xs[k] (List.getElem_mem hlt)
      have HTK : Hid (putI (xs.take k) xs[k].id xs[k].vec = xs.take (k + 1)) := by
        show putI (xs.take k) xs[k].id xs[k].vec = xs.take (k + 1)
        rw [putI_last _ xs[k] (rising_take (unhide HI) hlt)]
        exact (List.take_succ_eq_append_getElem hlt).symm
      clear hc hr
      generalize hx : xs[k] = x at *
      clear hx
      obtain ⟨p, q, r, hv3⟩ := vec3 hvf
      have hbr : b < wr.heap.size := Nat.lt_of_lt_of_le hbl hB.size
      have hBl := hT.lt
      have nb : Below wr.heap.size wr (wr.alloc (.cells #[.int .i64 x.id, .slice a1 x.vec.length d1] 106)) := (Below.refl _ _).alloc (Nat.le_refl _) _
      have bI : Box wr.heap.size #[.int .i64 x.id, .slice a1 x.vec.length d1] 106 (wr.alloc (.cells #[.int .i64 x.id, .slice a1 x.vec.length d1] 106)) wr.heap.size := newBox (Nat.le_refl _)
      have I1 := (Lay.ints_reads R1).later nb
      replace I1 : IsInts (wr.alloc (.cells #[.int .i64 x.id, .slice a1 x.vec.length d1] 106)) (.slice a1 x.vec.length d1) [p, q, r] := by rw [← hv3]; exact I1
      rw [hv3] at hvf HTK
      replace hT := hT.later nb
      replace hB := hB.trans (nb.mono hB.size)
      have HHT := hide hT
      have HB := hide hB
      have HI1 := hide I1
      have HBI := hide bI
      have HV := hide hvf
      have hwf := id_wf hid
      have HW := hide hwf
      clear R1 hT hB nb I1 bI hvf hid hwf hv3
      go_wp2_with fail
      clear c0 c1
      have hbI := unhide HBI
      have hhT := unhide HHT
      have hI1 := unhide HI1
      clear HBI HHT HI1
      generalize hW0 : wr.alloc (.cells #[.int .i64 x.id, .slice a1 x.vec.length d1] 106) = W0 at *
      clear hW0
      have hI0 : wr.heap.size < W0.heap.size := hbI.lt
      have hDT : TabAt W0.drew B k (xs.take k) := hhT
      have hDI : IsInts W0.drew (.slice a1 x.vec.length d1) [p, q, r] := hI1
      refine wp_region_noPanic ?_
      refine wp_region_held_drew (S := fun w' => Ext (fun c => c = B) W0 w') (by kernel_rfl) (Ext.refl _ _).drew1 (fun hHeld => ?_)
      generalize W0.drew = wD at hHeld hDT hDI ⊢
      refine wpAnyH_take (i := 0) (oi := { dst := some 23, op := Go.Op.move (Go.Operand.tmp 5), type := 92, pos := "l04_table.go:49", after := #[], guard := none }) (v := ?v0) rfl (by kernel_rfl) (by kernel_rfl) (by kernel_rfl) (fun _ _ _ h => h) (Or.inl ⟨by rfl, ?h0⟩) hHeld ?r0
      case h0 =>
        intro wS hSw
        (try dsimp only at hSw)
        go_simp
        try with_reducible rfl
      case r0 =>
      simp only [Act.put, List.setIfInBounds_toArray, List.set_cons_zero, List.set_cons_succ]
      refine wpAnyH_take (i := 1) (oi := { dst := some 24, op := Go.Op.fieldAddr 106 (Go.Operand.tmp 7) 0, type := 0, pos := "l04_table.go:49", after := #[], guard := none }) (v := ?v1) rfl (by kernel_rfl) (by kernel_rfl) (by kernel_rfl) (fun _ _ _ h => h) (Or.inl ⟨by rfl, ?h1⟩) hHeld ?r1
      case h1 =>
        intro wS hSw
        (try dsimp only at hSw)
        go_simp
        try with_reducible rfl
      case r1 =>
      simp only [Act.put, List.setIfInBounds_toArray, List.set_cons_zero, List.set_cons_succ]
      refine wpAnyH_take (i := 2) (oi := { dst := some 25, op := Go.Op.load 2 (Go.Operand.tmp 24), type := 2, pos := "l04_table.go:49", after := #[{ on := 1, ground := Go.Ground.data }], guard := none }) (v := ?v2) rfl (by kernel_rfl) (by kernel_rfl) (by kernel_rfl) (fun _ _ _ h => h) (Or.inl ⟨by rfl, ?h2⟩) hHeld ?r2
      case h2 =>
        intro wS hSw
        have bx := hbI.ext hSw (by omega)
        have y0 := bx.at 0 _ rfl
        have y1 := bx.at 1 _ rfl
        clear bx hSw
        (try dsimp only at hSw)
        go_simp
        try with_reducible rfl
      case r2 =>
      simp only [Act.put, List.setIfInBounds_toArray, List.set_cons_zero, List.set_cons_succ]
      refine wpAnyH_take (i := 3) (oi := { dst := some 26, op := Go.Op.fieldAddr 106 (Go.Operand.tmp 7) 1, type := 0, pos := "l04_table.go:49", after := #[], guard := none }) (v := ?v3) rfl (by kernel_rfl) (by kernel_rfl) (by kernel_rfl) (fun _ _ _ h => h) (Or.inl ⟨by rfl, ?h3⟩) hHeld ?r3
      case h3 =>
        intro wS hSw
        (try dsimp only at hSw)
        go_simp
        try with_reducible rfl
      case r3 =>
      simp only [Act.put, List.setIfInBounds_toArray, List.set_cons_zero, List.set_cons_succ]
      refine wpAnyH_take (i := 4) (oi := { dst := some 27, op := Go.Op.load 51 (Go.Operand.tmp 26), type := 51, pos := "l04_table.go:49", after := #[{ on := 3, ground := Go.Ground.data }], guard := none }) (v := ?v4) rfl (by kernel_rfl) (by kernel_rfl) (by kernel_rfl) (fun _ _ _ h => h) (Or.inl ⟨by rfl, ?h4⟩) hHeld ?r4
      case h4 =>
        intro wS hSw
        have bx := hbI.ext hSw (by omega)
        have y0 := bx.at 0 _ rfl
        have y1 := bx.at 1 _ rfl
        clear bx hSw
        (try dsimp only at hSw)
        go_simp
        try with_reducible rfl
      case r4 =>
      simp only [Act.put, List.setIfInBounds_toArray, List.set_cons_zero, List.set_cons_succ]
      refine wpAnyH_ready (rs := [5]) (by kernel_rfl) (by simp) ?_
      refine AllReadyH.cons (o := { dst := some 28, op := Go.Op.call { callee := Go.Callee.value (Go.Operand.func 93), args := #[Go.Operand.tmp 27], argTypes := #[51] }, type := 134, pos := "l04_table.go:49", after := #[{ on := 4, ground := Go.Ground.data }], guard := none }) rfl (fun K hK => ?_) AllReadyH.nil
      go_simp
      go_at_call 93
      refine (vectorOf_ok _ p q r _ hDI (unhide HV)).mono ?_
      rintro e w3 ⟨rfl, hbw⟩
      have hT3 := hDT.later hbw
      try go_wp2_with fail
      refine hK.out _ _ (hHeld.trans (ext_of_below hbw _)) (fun hHeld => ?_)
      clear hK K
      try simp only [Act.put, List.setIfInBounds_toArray, List.set_cons_zero, List.set_cons_succ]
      refine wpAnyH_take (i := 6) (oi := { dst := some 22, op := Go.Op.move (Go.Operand.tmp 28), type := 134, pos := "l04_table.go:49", after := #[{ on := 5, ground := Go.Ground.data }], guard := none }) (v := ?v6) rfl (by kernel_rfl) (by kernel_rfl) (by kernel_rfl) (fun _ _ _ h => h) (Or.inl ⟨by rfl, ?h6⟩) hHeld ?r6
      case h6 =>
        intro wS hSw
        (try dsimp only at hSw)
        go_simp
        try with_reducible rfl
      case r6 =>
      simp only [Act.put, List.setIfInBounds_toArray, List.set_cons_zero, List.set_cons_succ]
      refine wpAnyH_take (i := 7) (oi := { dst := some 29, op := Go.Op.extract (Go.Operand.tmp 22) 0, type := 133, pos := "l04_table.go:49", after := #[{ on := 6, ground := Go.Ground.data }], guard := none }) (v := ?v7) rfl (by kernel_rfl) (by kernel_rfl) (by kernel_rfl) (fun _ _ _ h => h) (Or.inl ⟨by rfl, ?h7⟩) hHeld ?r7
      case h7 =>
        intro wS hSw
        (try dsimp only at hSw)
        go_simp
        try with_reducible rfl
      case r7 =>
      simp only [Act.put, List.setIfInBounds_toArray, List.set_cons_zero, List.set_cons_succ]
      refine wpAnyH_take (i := 8) (oi := { dst := some 30, op := Go.Op.extract (Go.Operand.tmp 22) 1, type := 2, pos := "l04_table.go:49", after := #[{ on := 6, ground := Go.Ground.data }, { on := 9, ground := Go.Ground.gcOnly Go.Departure.lateStores }], guard := none }) (v := ?v8) rfl (by kernel_rfl) (by kernel_rfl) (by kernel_rfl) (fun _ _ _ h => h) (Or.inl ⟨by rfl, ?h8⟩) hHeld ?r8
      case h8 =>
        intro wS hSw
        (try dsimp only at hSw)
        go_simp
        try with_reducible rfl
      case r8 =>
      simp only [Act.put, List.setIfInBounds_toArray, List.set_cons_zero, List.set_cons_succ]
      refine wpAnyH_ready (rs := [9]) (by kernel_rfl) (by simp) ?_
      refine AllReadyH.cons (o := { dst := none, op := Go.Op.mapUpdate 92 (Go.Operand.tmp 23) (Go.Operand.tmp 25) (Go.Operand.tmp 29), type := 0, pos := "l04_table.go:49", after := #[{ on := 0, ground := Go.Ground.data }, { on := 2, ground := Go.Ground.data }, { on := 7, ground := Go.Ground.data }, { on := 5, ground := Go.Ground.chain }, { on := 0, ground := Go.Ground.phase }, { on := 1, ground := Go.Ground.phase }, { on := 2, ground := Go.Ground.phase }, { on := 3, ground := Go.Ground.phase }, { on := 4, ground := Go.Ground.phase }, { on := 5, ground := Go.Ground.phase }, { on := 6, ground := Go.Ground.phase }, { on := 7, ground := Go.Ground.phase }, { on := 8, ground := Go.Ground.textOnly Go.Departure.lateStores }], guard := none }) rfl (fun K hK => ?_) AllReadyH.nil
      obtain ⟨w5, hrun, hT5, hE5⟩ := hT3.put (by omega) (unhide HW) p q r
      go_simp
      try simp only [hrun]
      try go_simp
      refine hK.out _ _ (hHeld.trans hE5) (fun hHeld => ?_)
      clear hK K
      try simp only [Act.put, List.setIfInBounds_toArray, List.set_cons_zero, List.set_cons_succ]
      refine wpAnyH_done (by kernel_rfl) ?_ _
      refine NoPanic.normal ?_
      have HT5 := hide hT5
      have HE5 := hide ((unhide HB).trans (hHeld.below (unhide HB).size (fun c hc e => by omega)))
      clear hHeld hT5 HB
      go_wp2_with fail
      go_roundw
      case rel => exact ⟨k + 1, by omega, by go_num, by rw [← unhide HTK]; exact unhide HT5, unhide HE5⟩
      case measure => simp [intOf]; omega
    · obtain rfl : k = xs.length := by omega
      rw [List.take_length] at hT
      have HT := hide (hT.mono hlen)
      have HB := hide hB
      clear hT hB H
      go_wp2_with fail
      refine bodyPost_ret (v := .tuple #[.map (some B), .int .i64 0]) (by simp [results, Try.results101, go_sem]) rfl ?_
      exact ⟨⟨_, rfl, hz, unhide HT⟩, unhide HB⟩

/-- tableFrom of a right table. -/
theorem tableFrom_ok (v : Value) (xs : List DItem) (w : World) (h : (Lay.sl Lay.tItem).Reads w [v] xs) (hf : tableFault xs = 0) :
    Calls Try.prog 101 #[v] w fun e w' => (∃ q, e = .returned (.tuple #[.map (some q), .int .i64 0]) ∧ w.heap.size ≤ q ∧ TabAt w' q 30 xs) ∧ Below w.heap.size w w' := by
  obtain ⟨ao, cap, rfl⟩ := open_sl h
  by_cases hp : 0 < xs.length
  · obtain ⟨b, off, rfl, hbl⟩ := Lay.sl_addr h hp
    exact tableFrom_pos b off cap xs w h hbl hf
  · obtain rfl : xs = [] := List.eq_nil_of_length_eq_zero (by omega)
    exact tableFrom_zero ao cap w h

end Go.Proofs.Ytfgadegpdknocaa
