/-
  Texts of this proof in one: EqEntryS, EqWorld, EqWorldResult, OwnWorldResult, OwnWorld, OwnChain, LayMark, MaChain, OwnNode, MaWriteS.
  Their conditions stand in their theorems.
-/
import Derived.Test.YthpbdafhjakekaaChecked
import Derived.Test.YthpbdafhjakekaaNw01
import Derived.Test.YthpbdafhjakekaaNw03
import Derived.Test.YthpbdafhjakekaaNw04
import Derived.Deep.RegionHeld3
import Derived.Test.YthpbdafhjakekaaNw02

namespace Go.Proofs.Ythpbdafhjakekaa
open Go.RowKit

set_option maxRecDepth 100000 in
set_option maxHeartbeats 2000000 in
theorem eq_EntryS (v v2 : Value) (xs : List DEntry) (w : World) (h : (Lay.sl Lay.tEntry).Reads w [v] xs) (h2 : (Lay.sl Lay.tEntry).Reads w [v2] xs) :
    Calls Try.prog 24 #[v, v2] w fun e w' => e = .returned (.bool true) ∧ Below w.heap.size w w' := by
  have hbig := h.big
  obtain ⟨ao, cap, rfl⟩ := open_sl h
  obtain ⟨ao2, cap2, rfl⟩ := open_sl h2
  by_cases hp : 0 < xs.length
  · obtain ⟨b, off, rfl, hbl⟩ := Lay.sl_addr h hp
    obtain ⟨b2, off2, rfl, hbl2⟩ := Lay.sl_addr h2 hp
    have H := hide h
    have H2 := hide h2
    clear h h2
    go_enter Try.func24, Try.ntmps24
    go_wp2_with fail
    go_loopw [5] (fun i wr => ∃ k : Nat, k ≤ xs.length ∧ i = .int .i64 k ∧ Below w.heap.size w wr) (fun i _ => xs.length - (intOf i).toNat)
    case atStart => exact ⟨0, Nat.zero_le _, rfl, Below.refl _ _⟩
    case round =>
      obtain ⟨k, hk, rfl, hB⟩ := hrel
      by_cases hlt : k < xs.length
      · obtain ⟨row, hc, hr⟩ := Lay.row_at (unhide H) hlt
        obtain ⟨rowz, hcz, hrz⟩ := Lay.row_at (unhide H2) hlt
        have hr2 := hr
        obtain ⟨a4, d4, a9, d9, a10, d10, rfl, -, -, -⟩ := open_Entry hr2
        have hrz2 := hrz
        obtain ⟨a4z, d4z, a9z, d9z, a10z, d10z, rfl, -, -, -⟩ := open_Entry hrz2
        have c0 : w.cell? ⟨b, off + k * 11, none⟩ = some (.int .i64 (xs[k]).kind) := ((Below.refl w.heap.size w).cell (p := ⟨b, off + k * 11, none⟩) hbl).trans (hc 0 (by decide))
        have c1 : w.cell? ⟨b, off + k * 11 + 1, none⟩ = some (.int .i64 (xs[k]).session) := ((Below.refl w.heap.size w).cell (p := ⟨b, off + k * 11 + 1, none⟩) hbl).trans (hc 1 (by decide))
        have c2 : w.cell? ⟨b, off + k * 11 + 2, none⟩ = some (.int .i64 (xs[k]).seq) := ((Below.refl w.heap.size w).cell (p := ⟨b, off + k * 11 + 2, none⟩) hbl).trans (hc 2 (by decide))
        have c3 : w.cell? ⟨b, off + k * 11 + 3, none⟩ = some (.int .i64 (xs[k]).id) := ((Below.refl w.heap.size w).cell (p := ⟨b, off + k * 11 + 3, none⟩) hbl).trans (hc 3 (by decide))
        have c4 : w.cell? ⟨b, off + k * 11 + 4, none⟩ = some (.slice a4 (xs[k]).query.length d4) := ((Below.refl w.heap.size w).cell (p := ⟨b, off + k * 11 + 4, none⟩) hbl).trans (hc 4 (by decide))
        have c5 : w.cell? ⟨b, off + k * 11 + 5, none⟩ = some (.int .i64 (xs[k]).k) := ((Below.refl w.heap.size w).cell (p := ⟨b, off + k * 11 + 5, none⟩) hbl).trans (hc 5 (by decide))
        have c6 : w.cell? ⟨b, off + k * 11 + 6, none⟩ = some (.int .i64 (xs[k]).start) := ((Below.refl w.heap.size w).cell (p := ⟨b, off + k * 11 + 6, none⟩) hbl).trans (hc 6 (by decide))
        have c7 : w.cell? ⟨b, off + k * 11 + 7, none⟩ = some (.int .i64 (xs[k]).fin) := ((Below.refl w.heap.size w).cell (p := ⟨b, off + k * 11 + 7, none⟩) hbl).trans (hc 7 (by decide))
        have c8 : w.cell? ⟨b, off + k * 11 + 8, none⟩ = some (.int .i64 (xs[k]).place) := ((Below.refl w.heap.size w).cell (p := ⟨b, off + k * 11 + 8, none⟩) hbl).trans (hc 8 (by decide))
        have c9 : w.cell? ⟨b, off + k * 11 + 9, none⟩ = some (.slice a9 (xs[k]).vec.length d9) := ((Below.refl w.heap.size w).cell (p := ⟨b, off + k * 11 + 9, none⟩) hbl).trans (hc 9 (by decide))
        have c10 : w.cell? ⟨b, off + k * 11 + 10, none⟩ = some (.slice a10 (xs[k]).hits.length d10) := ((Below.refl w.heap.size w).cell (p := ⟨b, off + k * 11 + 10, none⟩) hbl).trans (hc 10 (by decide))
        have c0z : w.cell? ⟨b2, off2 + k * 11, none⟩ = some (.int .i64 (xs[k]).kind) := ((Below.refl w.heap.size w).cell (p := ⟨b2, off2 + k * 11, none⟩) hbl2).trans (hcz 0 (by decide))
        have c1z : w.cell? ⟨b2, off2 + k * 11 + 1, none⟩ = some (.int .i64 (xs[k]).session) := ((Below.refl w.heap.size w).cell (p := ⟨b2, off2 + k * 11 + 1, none⟩) hbl2).trans (hcz 1 (by decide))
        have c2z : w.cell? ⟨b2, off2 + k * 11 + 2, none⟩ = some (.int .i64 (xs[k]).seq) := ((Below.refl w.heap.size w).cell (p := ⟨b2, off2 + k * 11 + 2, none⟩) hbl2).trans (hcz 2 (by decide))
        have c3z : w.cell? ⟨b2, off2 + k * 11 + 3, none⟩ = some (.int .i64 (xs[k]).id) := ((Below.refl w.heap.size w).cell (p := ⟨b2, off2 + k * 11 + 3, none⟩) hbl2).trans (hcz 3 (by decide))
        have c4z : w.cell? ⟨b2, off2 + k * 11 + 4, none⟩ = some (.slice a4z (xs[k]).query.length d4z) := ((Below.refl w.heap.size w).cell (p := ⟨b2, off2 + k * 11 + 4, none⟩) hbl2).trans (hcz 4 (by decide))
        have c5z : w.cell? ⟨b2, off2 + k * 11 + 5, none⟩ = some (.int .i64 (xs[k]).k) := ((Below.refl w.heap.size w).cell (p := ⟨b2, off2 + k * 11 + 5, none⟩) hbl2).trans (hcz 5 (by decide))
        have c6z : w.cell? ⟨b2, off2 + k * 11 + 6, none⟩ = some (.int .i64 (xs[k]).start) := ((Below.refl w.heap.size w).cell (p := ⟨b2, off2 + k * 11 + 6, none⟩) hbl2).trans (hcz 6 (by decide))
        have c7z : w.cell? ⟨b2, off2 + k * 11 + 7, none⟩ = some (.int .i64 (xs[k]).fin) := ((Below.refl w.heap.size w).cell (p := ⟨b2, off2 + k * 11 + 7, none⟩) hbl2).trans (hcz 7 (by decide))
        have c8z : w.cell? ⟨b2, off2 + k * 11 + 8, none⟩ = some (.int .i64 (xs[k]).place) := ((Below.refl w.heap.size w).cell (p := ⟨b2, off2 + k * 11 + 8, none⟩) hbl2).trans (hcz 8 (by decide))
        have c9z : w.cell? ⟨b2, off2 + k * 11 + 9, none⟩ = some (.slice a9z (xs[k]).vec.length d9z) := ((Below.refl w.heap.size w).cell (p := ⟨b2, off2 + k * 11 + 9, none⟩) hbl2).trans (hcz 9 (by decide))
        have c10z : w.cell? ⟨b2, off2 + k * 11 + 10, none⟩ = some (.slice a10z (xs[k]).hits.length d10z) := ((Below.refl w.heap.size w).cell (p := ⟨b2, off2 + k * 11 + 10, none⟩) hbl2).trans (hcz 10 (by decide))
        clear hc hcz
        have HR := hide hr
        have HRZ := hide hrz
        clear hr hrz
        have HB := hide hB
        clear hB
        generalize hxk : xs[k] = x at *
        clear hxk
        have i1 : (0 : Int) ≤ (k : Int) := by omega
        have i2 : (k : Int) < (xs.length : Int) := by omega
        go_wp2_with fail
        refine wp_region_noPanic ?_
        refine wp_region_held_drew (S := fun w' => Below w.heap.size w w') (by kernel_rfl) (unhide HB).drew (fun hHeld => ?_)
        generalize wr.drew = wD at hHeld ⊢
        refine wpAnyH_take (i := 0) (oi := { dst := some 17, op := Go.Op.move (Go.Operand.tmp 0), type := 27, pos := "exact.go:1410", after := #[], guard := none }) (v := ?v0) rfl (by kernel_rfl) (by kernel_rfl) (by kernel_rfl) (fun _ _ _ h => h) (Or.inl ⟨by rfl, ?h0⟩) hHeld ?r0
        case h0 =>
          intro wS hSw
          (try dsimp only at hSw)
          go_simp
          try with_reducible rfl
        case r0 =>
        simp only [Act.put, List.setIfInBounds_toArray, List.set_cons_zero, List.set_cons_succ]
        refine wpAnyH_take (i := 1) (oi := { dst := some 18, op := Go.Op.move (Go.Operand.tmp 5), type := 3, pos := "exact.go:1410", after := #[], guard := none }) (v := ?v1) rfl (by kernel_rfl) (by kernel_rfl) (by kernel_rfl) (fun _ _ _ h => h) (Or.inl ⟨by rfl, ?h1⟩) hHeld ?r1
        case h1 =>
          intro wS hSw
          (try dsimp only at hSw)
          go_simp
          try with_reducible rfl
        case r1 =>
        simp only [Act.put, List.setIfInBounds_toArray, List.set_cons_zero, List.set_cons_succ]
        refine wpAnyH_take (i := 2) (oi := { dst := some 19, op := Go.Op.indexAddr 27 (Go.Operand.tmp 17) (Go.Operand.tmp 18), type := 0, pos := "exact.go:1410", after := #[{ on := 0, ground := Go.Ground.data }, { on := 1, ground := Go.Ground.data }], guard := none }) (v := ?v2) rfl (by kernel_rfl) (by kernel_rfl) (by kernel_rfl) (fun _ _ _ h => h) (Or.inl ⟨by rfl, ?h2⟩) hHeld ?r2
        case h2 =>
          intro wS hSw
          (try dsimp only at hSw)
          go_simp
          try with_reducible rfl
        case r2 =>
        simp only [Act.put, List.setIfInBounds_toArray, List.set_cons_zero, List.set_cons_succ]
        refine wpAnyH_take (i := 3) (oi := { dst := some 20, op := Go.Op.load 68 (Go.Operand.tmp 19), type := 68, pos := "exact.go:1410", after := #[{ on := 2, ground := Go.Ground.data }], guard := none }) (v := ?v3) rfl (by kernel_rfl) (by kernel_rfl) (by kernel_rfl) (fun _ _ _ h => h) (Or.inl ⟨by rfl, ?h3⟩) hHeld ?r3
        case h3 =>
          intro wS hSw
          have y0 := (hSw.cell (p := ⟨b, off + k * 11, none⟩) hbl).trans c0
          have y1 := (hSw.cell (p := ⟨b, off + k * 11 + 1, none⟩) hbl).trans c1
          have y2 := (hSw.cell (p := ⟨b, off + k * 11 + 2, none⟩) hbl).trans c2
          have y3 := (hSw.cell (p := ⟨b, off + k * 11 + 3, none⟩) hbl).trans c3
          have y4 := (hSw.cell (p := ⟨b, off + k * 11 + 4, none⟩) hbl).trans c4
          have y5 := (hSw.cell (p := ⟨b, off + k * 11 + 5, none⟩) hbl).trans c5
          have y6 := (hSw.cell (p := ⟨b, off + k * 11 + 6, none⟩) hbl).trans c6
          have y7 := (hSw.cell (p := ⟨b, off + k * 11 + 7, none⟩) hbl).trans c7
          have y8 := (hSw.cell (p := ⟨b, off + k * 11 + 8, none⟩) hbl).trans c8
          have y9 := (hSw.cell (p := ⟨b, off + k * 11 + 9, none⟩) hbl).trans c9
          have y10 := (hSw.cell (p := ⟨b, off + k * 11 + 10, none⟩) hbl).trans c10
          clear hSw
          (try dsimp only at hSw)
          go_simp
          try with_reducible rfl
        case r3 =>
        simp only [Act.put, List.setIfInBounds_toArray, List.set_cons_zero, List.set_cons_succ]
        refine wpAnyH_take (i := 4) (oi := { dst := some 21, op := Go.Op.move (Go.Operand.tmp 1), type := 27, pos := "exact.go:1410", after := #[], guard := none }) (v := ?v4) rfl (by kernel_rfl) (by kernel_rfl) (by kernel_rfl) (fun _ _ _ h => h) (Or.inl ⟨by rfl, ?h4⟩) hHeld ?r4
        case h4 =>
          intro wS hSw
          (try dsimp only at hSw)
          go_simp
          try with_reducible rfl
        case r4 =>
        simp only [Act.put, List.setIfInBounds_toArray, List.set_cons_zero, List.set_cons_succ]
        refine wpAnyH_take (i := 5) (oi := { dst := some 22, op := Go.Op.move (Go.Operand.tmp 5), type := 3, pos := "exact.go:1410", after := #[], guard := none }) (v := ?v5) rfl (by kernel_rfl) (by kernel_rfl) (by kernel_rfl) (fun _ _ _ h => h) (Or.inl ⟨by rfl, ?h5⟩) hHeld ?r5
        case h5 =>
          intro wS hSw
          (try dsimp only at hSw)
          go_simp
          try with_reducible rfl
        case r5 =>
        simp only [Act.put, List.setIfInBounds_toArray, List.set_cons_zero, List.set_cons_succ]
        refine wpAnyH_take (i := 6) (oi := { dst := some 23, op := Go.Op.indexAddr 27 (Go.Operand.tmp 21) (Go.Operand.tmp 22), type := 0, pos := "exact.go:1410", after := #[{ on := 4, ground := Go.Ground.data }, { on := 5, ground := Go.Ground.data }], guard := none }) (v := ?v6) rfl (by kernel_rfl) (by kernel_rfl) (by kernel_rfl) (fun _ _ _ h => h) (Or.inl ⟨by rfl, ?h6⟩) hHeld ?r6
        case h6 =>
          intro wS hSw
          (try dsimp only at hSw)
          go_simp
          try with_reducible rfl
        case r6 =>
        simp only [Act.put, List.setIfInBounds_toArray, List.set_cons_zero, List.set_cons_succ]
        refine wpAnyH_take (i := 7) (oi := { dst := some 24, op := Go.Op.load 68 (Go.Operand.tmp 23), type := 68, pos := "exact.go:1410", after := #[{ on := 6, ground := Go.Ground.data }], guard := none }) (v := ?v7) rfl (by kernel_rfl) (by kernel_rfl) (by kernel_rfl) (fun _ _ _ h => h) (Or.inl ⟨by rfl, ?h7⟩) hHeld ?r7
        case h7 =>
          intro wS hSw
          have y0z := (hSw.cell (p := ⟨b2, off2 + k * 11, none⟩) hbl2).trans c0z
          have y1z := (hSw.cell (p := ⟨b2, off2 + k * 11 + 1, none⟩) hbl2).trans c1z
          have y2z := (hSw.cell (p := ⟨b2, off2 + k * 11 + 2, none⟩) hbl2).trans c2z
          have y3z := (hSw.cell (p := ⟨b2, off2 + k * 11 + 3, none⟩) hbl2).trans c3z
          have y4z := (hSw.cell (p := ⟨b2, off2 + k * 11 + 4, none⟩) hbl2).trans c4z
          have y5z := (hSw.cell (p := ⟨b2, off2 + k * 11 + 5, none⟩) hbl2).trans c5z
          have y6z := (hSw.cell (p := ⟨b2, off2 + k * 11 + 6, none⟩) hbl2).trans c6z
          have y7z := (hSw.cell (p := ⟨b2, off2 + k * 11 + 7, none⟩) hbl2).trans c7z
          have y8z := (hSw.cell (p := ⟨b2, off2 + k * 11 + 8, none⟩) hbl2).trans c8z
          have y9z := (hSw.cell (p := ⟨b2, off2 + k * 11 + 9, none⟩) hbl2).trans c9z
          have y10z := (hSw.cell (p := ⟨b2, off2 + k * 11 + 10, none⟩) hbl2).trans c10z
          clear hSw
          (try dsimp only at hSw)
          go_simp
          try with_reducible rfl
        case r7 =>
        simp only [Act.put, List.setIfInBounds_toArray, List.set_cons_zero, List.set_cons_succ]
        refine wpAnyH_ready (rs := [8]) (by kernel_rfl) (by simp) ?_
        refine AllReadyH.cons (o := { dst := some 25, op := Go.Op.call { callee := Go.Callee.value (Go.Operand.func 36), args := #[Go.Operand.tmp 20, Go.Operand.tmp 24], argTypes := #[68, 68] }, type := 4, pos := "exact.go:1410", after := #[{ on := 3, ground := Go.Ground.data }, { on := 7, ground := Go.Ground.data }], guard := none }) rfl (fun K hK => ?_) AllReadyH.nil
        go_simp
        go_at_call 36
        refine (eq_Entry _ _ x _ ((unhide HR).later hHeld) ((unhide HRZ).later hHeld)).mono ?_
        rintro e w3 ⟨rfl, hbw⟩
        try go_wp2_with fail
        refine hK.out _ _ (hHeld.trans (hbw.mono hHeld.size)) (fun hHeld => ?_)
        clear hK K
        try simp only [Act.put, List.setIfInBounds_toArray, List.set_cons_zero, List.set_cons_succ]
        refine wpAnyH_take (i := 9) (oi := { dst := some 26, op := Go.Op.unOp Go.UnOp.not 4 (Go.Operand.tmp 25), type := 4, pos := "exact.go:1410", after := #[{ on := 8, ground := Go.Ground.data }], guard := none }) (v := ?v9) rfl (by kernel_rfl) (by kernel_rfl) (by kernel_rfl) (fun _ _ _ h => h) (Or.inl ⟨by rfl, ?h9⟩) hHeld ?r9
        case h9 =>
          intro wS hSw
          (try dsimp only at hSw)
          go_simp
          try with_reducible rfl
        case r9 =>
        simp only [Act.put, List.setIfInBounds_toArray, List.set_cons_zero, List.set_cons_succ]
        refine wpAnyH_done (by kernel_rfl) ?_ _
        refine NoPanic.normal ?_
        have HB3 := hide hHeld
        clear hHeld c0 c0z c1 c1z c2 c2z c3 c3z c4 c4z c5 c5z c6 c6z c7 c7z c8 c8z c9 c9z c10 c10z HB
        go_wp2_with fail
        go_roundw
        case rel => exact ⟨k + 1, by omega, by go_num, unhide HB3⟩
        case measure => simp [intOf]; omega
      · have HB := hide hB
        clear hB
        go_wp2_with fail
        go_ret
        exact ⟨rfl, unhide HB⟩
  · obtain rfl : xs = [] := List.eq_nil_of_length_eq_zero (by omega)
    clear h h2 hp
    simp only [List.length_nil] at *
    go_enter Try.func24, Try.ntmps24
    go_wp2_with fail
    refine wp_loop_rounds 1 ?_
    rw [rounds_succ]
    go_wp2_with fail
    go_ret
    exact ⟨rfl, Below.refl _ _⟩

end Go.Proofs.Ythpbdafhjakekaa

namespace Go.Proofs.Ythpbdafhjakekaa
open Go.RowKit

set_option maxRecDepth 10000 in
set_option maxHeartbeats 1000000 in
theorem eq_World (cs cs2 : List Value) (x : DWorld) (w : World) (h : Lay.tWorld.Reads w cs x) (h2 : Lay.tWorld.Reads w cs2 x) :
    Calls Try.prog 14 #[.agg cs.toArray, .agg cs2.toArray] w fun e w' => e = .returned (.bool true) ∧ Below w.heap.size w w' := by
  obtain ⟨a3, d3, a4, d4, a5, d5, a6, d6, rfl, R2, R4, R5, R6⟩ := open_World h
  obtain ⟨a3z, d3z, a4z, d4z, a5z, d5z, a6z, d6z, rfl, R2z, R4z, R5z, R6z⟩ := open_World h2
  clear h h2
  have e0 : (x.now != x.now) = false := by simp
  have e1 : (x.events != x.events) = false := by simp
  have e2 : (x.chain.epoch != x.chain.epoch) = false := by simp
  have HB0 : Below w.heap.size w ((w.alloc (.cells #[.int .i64 x.now, .int .i64 x.events, .int .i64 x.chain.epoch, .slice a3 x.chain.ids.length d3, .slice a4 x.nodes.length d4, .slice a5 x.msgs.length d5, .slice a6 x.history.length d6] 29)).alloc (.cells #[.int .i64 x.now, .int .i64 x.events, .int .i64 x.chain.epoch, .slice a3z x.chain.ids.length d3z, .slice a4z x.nodes.length d4z, .slice a5z x.msgs.length d5z, .slice a6z x.history.length d6z] 29)) := ((Below.refl _ _).alloc (Nat.le_refl _) _).alloc (by simp) _
  have bA : Box w.heap.size #[.int .i64 x.now, .int .i64 x.events, .int .i64 x.chain.epoch, .slice a3 x.chain.ids.length d3, .slice a4 x.nodes.length d4, .slice a5 x.msgs.length d5, .slice a6 x.history.length d6] 29 ((w.alloc (.cells #[.int .i64 x.now, .int .i64 x.events, .int .i64 x.chain.epoch, .slice a3 x.chain.ids.length d3, .slice a4 x.nodes.length d4, .slice a5 x.msgs.length d5, .slice a6 x.history.length d6] 29)).alloc (.cells #[.int .i64 x.now, .int .i64 x.events, .int .i64 x.chain.epoch, .slice a3z x.chain.ids.length d3z, .slice a4z x.nodes.length d4z, .slice a5z x.msgs.length d5z, .slice a6z x.history.length d6z] 29)) w.heap.size := (newBox (Nat.le_refl _)).grow _
  have bC : Box w.heap.size #[.int .i64 x.now, .int .i64 x.events, .int .i64 x.chain.epoch, .slice a3z x.chain.ids.length d3z, .slice a4z x.nodes.length d4z, .slice a5z x.msgs.length d5z, .slice a6z x.history.length d6z] 29 ((w.alloc (.cells #[.int .i64 x.now, .int .i64 x.events, .int .i64 x.chain.epoch, .slice a3 x.chain.ids.length d3, .slice a4 x.nodes.length d4, .slice a5 x.msgs.length d5, .slice a6 x.history.length d6] 29)).alloc (.cells #[.int .i64 x.now, .int .i64 x.events, .int .i64 x.chain.epoch, .slice a3z x.chain.ids.length d3z, .slice a4z x.nodes.length d4z, .slice a5z x.msgs.length d5z, .slice a6z x.history.length d6z] 29)) (w.heap.size + 1) := newBoxAt (by omega) (by simp)
  go_enter Try.func14, Try.ntmps14
  go_wp2_with fail
  generalize (w.alloc (.cells #[.int .i64 x.now, .int .i64 x.events, .int .i64 x.chain.epoch, .slice a3 x.chain.ids.length d3, .slice a4 x.nodes.length d4, .slice a5 x.msgs.length d5, .slice a6 x.history.length d6] 29)).alloc (.cells #[.int .i64 x.now, .int .i64 x.events, .int .i64 x.chain.epoch, .slice a3z x.chain.ids.length d3z, .slice a4z x.nodes.length d4z, .slice a5z x.msgs.length d5z, .slice a6z x.history.length d6z] 29) = W0 at *
  replace R2 := R2.later HB0
  replace R2z := R2z.later HB0
  replace R4 := R4.later HB0
  replace R4z := R4z.later HB0
  replace R5 := R5.later HB0
  replace R5z := R5z.later HB0
  replace R6 := R6.later HB0
  replace R6z := R6z.later HB0
  refine (eq_Chain _ _ x.chain _ R2 R2z).mono ?_
  rintro e w1 ⟨rfl, hb⟩
  replace bA := bA.keep hb
  replace bC := bC.keep hb
  replace HB0 := HB0.trans (hb.mono HB0.size)
  replace R4 := R4.later hb
  replace R4z := R4z.later hb
  replace R5 := R5.later hb
  replace R5z := R5z.later hb
  replace R6 := R6.later hb
  replace R6z := R6z.later hb
  have p4 := bA.at 4 _ rfl
  have q4 := bC.at 4 _ rfl
  have p5 := bA.at 5 _ rfl
  have q5 := bC.at 5 _ rfl
  have p6 := bA.at 6 _ rfl
  have q6 := bC.at 6 _ rfl
  clear hb
  have HB := hide HB0
  have HA := hide bA
  have HC := hide bC
  clear HB0 bA bC
  have S4 := hide R4
  have S4z := hide R4z
  clear R4 R4z
  have S5 := hide R5
  have S5z := hide R5z
  clear R5 R5z
  have S6 := hide R6
  have S6z := hide R6z
  clear R6 R6z
  go_wp2_with fail
  have HB0 := unhide HB
  have bA := unhide HA
  have bC := unhide HC
  clear HB HA HC
  clear p4 q4
  clear p5 q5
  clear p6 q6
  have R4 := unhide S4
  have R4z := unhide S4z
  clear S4 S4z
  have R5 := unhide S5
  have R5z := unhide S5z
  clear S5 S5z
  have R6 := unhide S6
  have R6z := unhide S6z
  clear S6 S6z
  refine (eq_NodeS _ _ x.nodes _ R4 R4z).mono ?_
  rintro e w2 ⟨rfl, hb⟩
  replace bA := bA.keep hb
  replace bC := bC.keep hb
  replace HB0 := HB0.trans (hb.mono HB0.size)
  replace R5 := R5.later hb
  replace R5z := R5z.later hb
  replace R6 := R6.later hb
  replace R6z := R6z.later hb
  have p5 := bA.at 5 _ rfl
  have q5 := bC.at 5 _ rfl
  have p6 := bA.at 6 _ rfl
  have q6 := bC.at 6 _ rfl
  clear hb
  have HB := hide HB0
  have HA := hide bA
  have HC := hide bC
  clear HB0 bA bC
  have S5 := hide R5
  have S5z := hide R5z
  clear R5 R5z
  have S6 := hide R6
  have S6z := hide R6z
  clear R6 R6z
  go_wp2_with fail
  have HB0 := unhide HB
  have bA := unhide HA
  have bC := unhide HC
  clear HB HA HC
  clear p5 q5
  clear p6 q6
  have R5 := unhide S5
  have R5z := unhide S5z
  clear S5 S5z
  have R6 := unhide S6
  have R6z := unhide S6z
  clear S6 S6z
  refine (eq_MsgS _ _ x.msgs _ R5 R5z).mono ?_
  rintro e w3 ⟨rfl, hb⟩
  replace bA := bA.keep hb
  replace bC := bC.keep hb
  replace HB0 := HB0.trans (hb.mono HB0.size)
  replace R6 := R6.later hb
  replace R6z := R6z.later hb
  have p6 := bA.at 6 _ rfl
  have q6 := bC.at 6 _ rfl
  clear hb
  have HB := hide HB0
  have HA := hide bA
  have HC := hide bC
  clear HB0 bA bC
  have S6 := hide R6
  have S6z := hide R6z
  clear R6 R6z
  go_wp2_with fail
  have HB0 := unhide HB
  have bA := unhide HA
  have bC := unhide HC
  clear HB HA HC
  clear p6 q6
  have R6 := unhide S6
  have R6z := unhide S6z
  clear S6 S6z
  refine (eq_EntryS _ _ x.history _ R6 R6z).mono ?_
  rintro e w4 ⟨rfl, hb⟩
  replace bA := bA.keep hb
  replace bC := bC.keep hb
  replace HB0 := HB0.trans (hb.mono HB0.size)
  clear hb
  have HB := hide HB0
  have HA := hide bA
  have HC := hide bC
  clear HB0 bA bC
  go_wp2_with fail
  go_ret
  exact ⟨rfl, unhide HB⟩

end Go.Proofs.Ythpbdafhjakekaa

namespace Go.Proofs.Ythpbdafhjakekaa
open Go.RowKit

set_option maxRecDepth 10000 in
set_option maxHeartbeats 1000000 in
theorem eq_WorldResult (cs cs2 : List Value) (x : DWorldResult) (w : World) (h : Lay.tWorldResult.Reads w cs x) (h2 : Lay.tWorldResult.Reads w cs2 x) :
    Calls Try.prog 6 #[.agg cs.toArray, .agg cs2.toArray] w fun e w' => e = .returned (.bool true) ∧ Below w.heap.size w w' := by
  obtain ⟨a5, d5, a6, d6, a7, d7, a8, d8, rfl, R2⟩ := open_WorldResult h
  obtain ⟨a5z, d5z, a6z, d6z, a7z, d7z, a8z, d8z, rfl, R2z⟩ := open_WorldResult h2
  clear h h2
  have e0 : (x.code != x.code) = false := by simp
  have e1 : (x.moved != x.moved) = false := by simp
  have e2 : (x.world.now != x.world.now) = false := by simp
  have e3 : (x.world.events != x.world.events) = false := by simp
  have e4 : (x.world.chain.epoch != x.world.chain.epoch) = false := by simp
  have HB0 : Below w.heap.size w ((w.alloc (.cells #[.int .i64 x.code, .bool x.moved, .int .i64 x.world.now, .int .i64 x.world.events, .int .i64 x.world.chain.epoch, .slice a5 x.world.chain.ids.length d5, .slice a6 x.world.nodes.length d6, .slice a7 x.world.msgs.length d7, .slice a8 x.world.history.length d8] 31)).alloc (.cells #[.int .i64 x.code, .bool x.moved, .int .i64 x.world.now, .int .i64 x.world.events, .int .i64 x.world.chain.epoch, .slice a5z x.world.chain.ids.length d5z, .slice a6z x.world.nodes.length d6z, .slice a7z x.world.msgs.length d7z, .slice a8z x.world.history.length d8z] 31)) := ((Below.refl _ _).alloc (Nat.le_refl _) _).alloc (by simp) _
  have bA : Box w.heap.size #[.int .i64 x.code, .bool x.moved, .int .i64 x.world.now, .int .i64 x.world.events, .int .i64 x.world.chain.epoch, .slice a5 x.world.chain.ids.length d5, .slice a6 x.world.nodes.length d6, .slice a7 x.world.msgs.length d7, .slice a8 x.world.history.length d8] 31 ((w.alloc (.cells #[.int .i64 x.code, .bool x.moved, .int .i64 x.world.now, .int .i64 x.world.events, .int .i64 x.world.chain.epoch, .slice a5 x.world.chain.ids.length d5, .slice a6 x.world.nodes.length d6, .slice a7 x.world.msgs.length d7, .slice a8 x.world.history.length d8] 31)).alloc (.cells #[.int .i64 x.code, .bool x.moved, .int .i64 x.world.now, .int .i64 x.world.events, .int .i64 x.world.chain.epoch, .slice a5z x.world.chain.ids.length d5z, .slice a6z x.world.nodes.length d6z, .slice a7z x.world.msgs.length d7z, .slice a8z x.world.history.length d8z] 31)) w.heap.size := (newBox (Nat.le_refl _)).grow _
  have bC : Box w.heap.size #[.int .i64 x.code, .bool x.moved, .int .i64 x.world.now, .int .i64 x.world.events, .int .i64 x.world.chain.epoch, .slice a5z x.world.chain.ids.length d5z, .slice a6z x.world.nodes.length d6z, .slice a7z x.world.msgs.length d7z, .slice a8z x.world.history.length d8z] 31 ((w.alloc (.cells #[.int .i64 x.code, .bool x.moved, .int .i64 x.world.now, .int .i64 x.world.events, .int .i64 x.world.chain.epoch, .slice a5 x.world.chain.ids.length d5, .slice a6 x.world.nodes.length d6, .slice a7 x.world.msgs.length d7, .slice a8 x.world.history.length d8] 31)).alloc (.cells #[.int .i64 x.code, .bool x.moved, .int .i64 x.world.now, .int .i64 x.world.events, .int .i64 x.world.chain.epoch, .slice a5z x.world.chain.ids.length d5z, .slice a6z x.world.nodes.length d6z, .slice a7z x.world.msgs.length d7z, .slice a8z x.world.history.length d8z] 31)) (w.heap.size + 1) := newBoxAt (by omega) (by simp)
  go_enter Try.func6, Try.ntmps6
  go_wp2_with fail
  generalize (w.alloc (.cells #[.int .i64 x.code, .bool x.moved, .int .i64 x.world.now, .int .i64 x.world.events, .int .i64 x.world.chain.epoch, .slice a5 x.world.chain.ids.length d5, .slice a6 x.world.nodes.length d6, .slice a7 x.world.msgs.length d7, .slice a8 x.world.history.length d8] 31)).alloc (.cells #[.int .i64 x.code, .bool x.moved, .int .i64 x.world.now, .int .i64 x.world.events, .int .i64 x.world.chain.epoch, .slice a5z x.world.chain.ids.length d5z, .slice a6z x.world.nodes.length d6z, .slice a7z x.world.msgs.length d7z, .slice a8z x.world.history.length d8z] 31) = W0 at *
  replace R2 := R2.later HB0
  replace R2z := R2z.later HB0
  refine (eq_World _ _ x.world _ R2 R2z).mono ?_
  rintro e w1 ⟨rfl, hb⟩
  replace bA := bA.keep hb
  replace bC := bC.keep hb
  replace HB0 := HB0.trans (hb.mono HB0.size)
  clear hb
  have HB := hide HB0
  have HA := hide bA
  have HC := hide bC
  clear HB0 bA bC
  go_wp2_with fail
  go_ret
  exact ⟨rfl, unhide HB⟩

end Go.Proofs.Ythpbdafhjakekaa

namespace Go.Proofs.Ythpbdafhjakekaa
open Go.RowKit

theorem vcnt_WorldResult (x : DWorldResult) : Lay.tWorldResult.vcnt x = Lay.tWorld.vcnt x.world := by
  show 0 + (0 + (Lay.tWorld.vcnt x.world)) = Lay.tWorld.vcnt x.world
  omega
theorem mkv_WorldResult (k : Int) (x : DWorldResult) : Lay.tWorldResult.mkv k x = ⟨x.code, x.moved, Lay.tWorld.mkv (k) x.world⟩ := by
  simp [Lay.tWorldResult, Lay.via, Lay.pair, Lay.int, Lay.bool]
theorem own_WorldResult {w : World} {cs : List Value} {x : DWorldResult} {bl : List Nat} (h : Lay.tWorldResult.Own w cs x bl) : ∃ (a5 : Option Addr) (d5 : Nat) (a6 : Option Addr) (d6 : Nat) (a7 : Option Addr) (d7 : Nat) (a8 : Option Addr) (d8 : Nat) (g2 : List Nat), cs = [.int .i64 x.code, .bool x.moved, .int .i64 x.world.now, .int .i64 x.world.events, .int .i64 x.world.chain.epoch, .slice a5 x.world.chain.ids.length d5, .slice a6 x.world.nodes.length d6, .slice a7 x.world.msgs.length d7, .slice a8 x.world.history.length d8] ∧ bl = g2 ∧ Lay.tWorld.Own w [.int .i64 x.world.now, .int .i64 x.world.events, .int .i64 x.world.chain.epoch, .slice a5 x.world.chain.ids.length d5, .slice a6 x.world.nodes.length d6, .slice a7 x.world.msgs.length d7, .slice a8 x.world.history.length d8] x.world g2 ∧ (Lit.int .i64 x.code).wf = true := by
  obtain ⟨hl, hn, hf⟩ := h
  obtain ⟨a5, d5, b5, a6, d6, b6, a7, d7, b7, a8, d8, b8, rfl, hbl, w0, w2, w3, w4, l5, l6, l7, l8⟩ := lies_WorldResult.1 hl
  rw [hbl] at hn hf
  simp only [List.nodup_append, List.mem_append] at hn hf
  exact ⟨a5, d5, a6, d6, a7, d7, a8, d8, (b5 ++ (b6 ++ (b7 ++ b8))), rfl, by first | exact hbl | (rw [hbl]; simp only [List.append_assoc]), ⟨lies_World.2 ⟨a5, d5, b5, a6, d6, b6, a7, d7, b7, a8, d8, b8, rfl, rfl, w2, w3, w4, l5, l6, l7, l8⟩, by simp_all [List.nodup_append], fun b hb => hf b (by simp_all)⟩, w0⟩
theorem mkOwn_WorldResult {w : World} {x : DWorldResult} {c2 : List Value} {g2 : List Nat} (O2 : Lay.tWorld.Own w c2 x.world g2) (v0 : (Lit.int .i64 x.code).wf = true) (hn : (g2).Nodup) : Lay.tWorldResult.Own w ([.int .i64 x.code] ++ ([.bool x.moved] ++ c2)) x (g2) := by
  refine ⟨⟨[.int .i64 x.code], [.bool x.moved] ++ c2, [], [] ++ g2, rfl, by simp, ⟨rfl, v0, rfl⟩, ⟨[.bool x.moved], c2, [], g2, rfl, rfl, ⟨rfl, rfl⟩, O2.1⟩⟩, hn, ?_⟩
  intro b hb o
  exact O2.2.2 b hb o

end Go.Proofs.Ythpbdafhjakekaa

namespace Go.Proofs.Ythpbdafhjakekaa
open Go.RowKit

theorem vcnt_World (x : DWorld) : Lay.tWorld.vcnt x = Lay.tChain.vcnt x.chain + (Lay.sl Lay.tNode).vcnt x.nodes + (Lay.sl Lay.tMsg).vcnt x.msgs + (Lay.sl Lay.tEntry).vcnt x.history := by
  show 0 + (0 + (Lay.tChain.vcnt x.chain + ((Lay.sl Lay.tNode).vcnt x.nodes + ((Lay.sl Lay.tMsg).vcnt x.msgs + ((Lay.sl Lay.tEntry).vcnt x.history))))) = Lay.tChain.vcnt x.chain + (Lay.sl Lay.tNode).vcnt x.nodes + (Lay.sl Lay.tMsg).vcnt x.msgs + (Lay.sl Lay.tEntry).vcnt x.history
  omega
theorem mkv_World (k : Int) (x : DWorld) : Lay.tWorld.mkv k x = ⟨x.now, x.events, Lay.tChain.mkv (k) x.chain, (Lay.sl Lay.tNode).mkv (k + (Lay.tChain.vcnt x.chain : Int)) x.nodes, (Lay.sl Lay.tMsg).mkv (k + (Lay.tChain.vcnt x.chain : Int) + ((Lay.sl Lay.tNode).vcnt x.nodes : Int)) x.msgs, (Lay.sl Lay.tEntry).mkv (k + (Lay.tChain.vcnt x.chain : Int) + ((Lay.sl Lay.tNode).vcnt x.nodes : Int) + ((Lay.sl Lay.tMsg).vcnt x.msgs : Int)) x.history⟩ := by
  simp [Lay.tWorld, Lay.via, Lay.pair, Lay.int]
theorem own_World {w : World} {cs : List Value} {x : DWorld} {bl : List Nat} (h : Lay.tWorld.Own w cs x bl) : ∃ (a3 : Option Addr) (d3 : Nat) (a4 : Option Addr) (d4 : Nat) (a5 : Option Addr) (d5 : Nat) (a6 : Option Addr) (d6 : Nat) (g2 : List Nat) (g4 : List Nat) (g5 : List Nat) (g6 : List Nat), cs = [.int .i64 x.now, .int .i64 x.events, .int .i64 x.chain.epoch, .slice a3 x.chain.ids.length d3, .slice a4 x.nodes.length d4, .slice a5 x.msgs.length d5, .slice a6 x.history.length d6] ∧ bl = g2 ++ (g4 ++ (g5 ++ g6)) ∧ Lay.tChain.Own w [.int .i64 x.chain.epoch, .slice a3 x.chain.ids.length d3] x.chain g2 ∧ (Lay.sl Lay.tNode).Own w [.slice a4 x.nodes.length d4] x.nodes g4 ∧ (Lay.sl Lay.tMsg).Own w [.slice a5 x.msgs.length d5] x.msgs g5 ∧ (Lay.sl Lay.tEntry).Own w [.slice a6 x.history.length d6] x.history g6 ∧ (Lit.int .i64 x.now).wf = true ∧ (Lit.int .i64 x.events).wf = true := by
  obtain ⟨hl, hn, hf⟩ := h
  obtain ⟨a3, d3, b3, a4, d4, b4, a5, d5, b5, a6, d6, b6, rfl, hbl, w0, w1, w2, l3, l4, l5, l6⟩ := lies_World.1 hl
  rw [hbl] at hn hf
  simp only [List.nodup_append, List.mem_append] at hn hf
  exact ⟨a3, d3, a4, d4, a5, d5, a6, d6, b3, b4, b5, b6, rfl, hbl, ⟨lies_Chain.2 ⟨a3, d3, b3, rfl, rfl, w2, l3⟩, by simp_all, fun b hb => hf b (by simp_all)⟩, ⟨l4, by simp_all, fun b hb => hf b (by simp_all)⟩, ⟨l5, by simp_all, fun b hb => hf b (by simp_all)⟩, ⟨l6, by simp_all, fun b hb => hf b (by simp_all)⟩, w0, w1⟩
theorem mkOwn_World {w : World} {x : DWorld} {c2 : List Value} {c4 : List Value} {c5 : List Value} {c6 : List Value} {g2 : List Nat} {g4 : List Nat} {g5 : List Nat} {g6 : List Nat} (O2 : Lay.tChain.Own w c2 x.chain g2) (O4 : (Lay.sl Lay.tNode).Own w c4 x.nodes g4) (O5 : (Lay.sl Lay.tMsg).Own w c5 x.msgs g5) (O6 : (Lay.sl Lay.tEntry).Own w c6 x.history g6) (v0 : (Lit.int .i64 x.now).wf = true) (v1 : (Lit.int .i64 x.events).wf = true) (hn : (g2 ++ (g4 ++ (g5 ++ g6))).Nodup) : Lay.tWorld.Own w ([.int .i64 x.now] ++ ([.int .i64 x.events] ++ (c2 ++ (c4 ++ (c5 ++ c6))))) x (g2 ++ (g4 ++ (g5 ++ g6))) := by
  refine ⟨⟨[.int .i64 x.now], [.int .i64 x.events] ++ (c2 ++ (c4 ++ (c5 ++ c6))), [], [] ++ (g2 ++ (g4 ++ (g5 ++ g6))), rfl, by simp, ⟨rfl, v0, rfl⟩, ⟨[.int .i64 x.events], c2 ++ (c4 ++ (c5 ++ c6)), [], g2 ++ (g4 ++ (g5 ++ g6)), rfl, rfl, ⟨rfl, v1, rfl⟩, ⟨c2, c4 ++ (c5 ++ c6), g2, g4 ++ (g5 ++ g6), rfl, rfl, O2.1, ⟨c4, c5 ++ c6, g4, g5 ++ g6, rfl, rfl, O4.1, ⟨c5, c6, g5, g6, rfl, rfl, O5.1, O6.1⟩⟩⟩⟩⟩, hn, ?_⟩
  intro b hb o
  simp only [List.mem_append] at hb
  rcases hb with hb | hb | hb | hb
  · exact O2.2.2 b hb o
  · exact O4.2.2 b hb o
  · exact O5.2.2 b hb o
  · exact O6.2.2 b hb o

end Go.Proofs.Ythpbdafhjakekaa

namespace Go.Proofs.Ythpbdafhjakekaa
open Go.RowKit

theorem vcnt_Chain (x : DChain) : Lay.tChain.vcnt x = (Lay.sl Lay.int).vcnt x.ids := by
  show 0 + ((Lay.sl Lay.int).vcnt x.ids) = (Lay.sl Lay.int).vcnt x.ids
  omega
theorem mkv_Chain (k : Int) (x : DChain) : Lay.tChain.mkv k x = ⟨x.epoch, (Lay.sl Lay.int).mkv (k) x.ids⟩ := by
  simp [Lay.tChain, Lay.via, Lay.pair, Lay.int]
theorem own_Chain {w : World} {cs : List Value} {x : DChain} {bl : List Nat} (h : Lay.tChain.Own w cs x bl) : ∃ (a1 : Option Addr) (d1 : Nat) (g1 : List Nat), cs = [.int .i64 x.epoch, .slice a1 x.ids.length d1] ∧ bl = g1 ∧ (Lay.sl Lay.int).Own w [.slice a1 x.ids.length d1] x.ids g1 ∧ (Lit.int .i64 x.epoch).wf = true := by
  obtain ⟨hl, hn, hf⟩ := h
  obtain ⟨a1, d1, b1, rfl, hbl, w0, l1⟩ := lies_Chain.1 hl
  rw [hbl] at hn hf
  exact ⟨a1, d1, b1, rfl, hbl, ⟨l1, hn, hf⟩, w0⟩
theorem mkOwn_Chain {w : World} {x : DChain} {c1 : List Value} {g1 : List Nat} (O1 : (Lay.sl Lay.int).Own w c1 x.ids g1) (v0 : (Lit.int .i64 x.epoch).wf = true) (hn : (g1).Nodup) : Lay.tChain.Own w ([.int .i64 x.epoch] ++ c1) x (g1) := by
  refine ⟨⟨[.int .i64 x.epoch], c1, [], g1, rfl, by simp, ⟨rfl, v0, rfl⟩, O1.1⟩, hn, ?_⟩
  intro b hb o
  exact O1.2.2 b hb o

end Go.Proofs.Ythpbdafhjakekaa

namespace Go.Proofs.Ythpbdafhjakekaa
open Go.RowKit

theorem cnt_ints (zs : List Int) : (Lay.sl Lay.int).cnt zs = zs.length := by
  show cntAll (fun _ => 1) zs = zs.length
  induction zs with
  | nil => rfl
  | cons z zs ih => simp [cntAll, ih]; omega
theorem vcnt_ints (zs : List Int) : (Lay.sl Lay.int).vcnt zs = zs.length := cnt_ints zs
theorem mkAll_len {α : Type} (cnt : α → Nat) (mk : Int → α → α) (k : Int) (xs : List α) : (mkAll cnt mk k xs).length = xs.length := by
  induction xs generalizing k with
  | nil => rfl
  | cons x xs ih => simp [mkAll, ih]
theorem mk_ints_at (k : Int) (zs : List Int) (j : Nat) (h : j < zs.length) : ((Lay.sl Lay.int).mkv k zs).getD j 0 = k + j := by
  show (mkAll (fun _ => 1) (fun k _ => k) k zs).getD j 0 = k + j
  induction zs generalizing k j with
  | nil => simp at h
  | cons z zs ih =>
    match j with
    | 0 => simp [mkAll]
    | j + 1 =>
      have := ih (k + 1) j (by simpa using h)
      simp only [mkAll, List.getD_cons_succ]
      rw [show ((1 : Nat) : Int) = 1 from rfl, this]
      omega
theorem mk_ints_len (k : Int) (zs : List Int) : ((Lay.sl Lay.int).mkv k zs).length = zs.length := mkAll_len _ _ _ _
theorem mk_ints_wf (k : Int) (zs : List Int) (hk : 0 ≤ k) (hk2 : k + zs.length ≤ 1000000000) : ∀ z ∈ (Lay.sl Lay.int).mkv k zs, (Lit.int .i64 z).wf = true := by
  intro z hz
  obtain ⟨j, hj, rfl⟩ := List.mem_iff_getElem.1 hz
  have hj' := hj
  rw [mk_ints_len] at hj'
  have := mk_ints_at k zs j hj'
  have e : ((Lay.sl Lay.int).mkv k zs)[j] = k + j := by simpa [List.getD, hj] using this
  rw [e]
  exact wf_of_bd (by omega)

set_option maxHeartbeats 400000 in
theorem markI_pos (b off cap : Nat) (zs : List Int) (k : Int) (w : World) (hk : 0 ≤ k) (hk2 : k + zs.length ≤ 1000000000) (hc : ∀ j, j < zs.length → w.cell? ⟨b, off + j, none⟩ = some (.int .i64 (zs.getD j 0)))
    (hf : ∀ o, w.frozen? ⟨b, o, none⟩ = false) :
    Calls Try.prog 37 #[.slice (some ⟨b, off, none⟩) zs.length cap, .int .i64 k] w fun e w' => e = .returned (.int .i64 (k + zs.length)) ∧
      (∀ j, j < zs.length → w'.cell? ⟨b, off + j, none⟩ = some (.int .i64 (k + j))) ∧ (∀ o, w'.frozen? ⟨b, o, none⟩ = false) ∧ (∀ o, (o < off ∨ off + zs.length ≤ o) → w'.cell? ⟨b, o, none⟩ = w.cell? ⟨b, o, none⟩) ∧ Ext (fun q => q = b) w w' := by
  go_enter Try.func37, Try.ntmps37
  go_wp2
  go_loopw [1, 5] (fun kk i wr => ∃ j : Nat, j ≤ zs.length ∧ i = .int .i64 j ∧ kk = .int .i64 (k + j) ∧ (∀ m, m < j → wr.cell? ⟨b, off + m, none⟩ = some (.int .i64 (k + m))) ∧ (∀ o, wr.frozen? ⟨b, o, none⟩ = false) ∧ (∀ o, (o < off ∨ off + j ≤ o) → wr.cell? ⟨b, o, none⟩ = w.cell? ⟨b, o, none⟩) ∧ Ext (fun q => q = b) w wr)
    (fun _ i _ => zs.length - (intOf i).toNat)
  case atStart => exact ⟨0, Nat.zero_le _, rfl, by simp, fun m hm => by omega, hf, fun _ _ => rfl, Ext.refl _ _⟩
  case round =>
    obtain ⟨j, hj, rfl, rfl, hm, hfz, ho, hx⟩ := hrel
    by_cases hlt : j < zs.length
    · have hcd : wr.cell? ⟨b, off + j, none⟩ = some (.int .i64 (zs.getD j 0)) := (ho (off + j) (by omega)).trans (hc j hlt)
      have hfj := hfz (off + j)
      have HM : Hid (∀ m, m < j + 1 → (wr.setCell ⟨b, off + j, none⟩ (.int .i64 (k + j))).cell? ⟨b, off + m, none⟩ = some (.int .i64 (k + m))) := by
        intro m hm1
        by_cases e : m = j
        · subst e
          exact World.cell?_setCell_same _ _ _ hcd
        · rw [World.cell?_setCell_other _ _ _ _ (fun q => by have := congrArg Addr.off q; simp only at this; omega)]
          exact hm m (by omega)
      have HF : Hid (∀ o, (wr.setCell ⟨b, off + j, none⟩ (.int .i64 (k + j))).frozen? ⟨b, o, none⟩ = false) := fun o => by simpa using hfz o
      have HO : Hid (∀ o, (o < off ∨ off + (j + 1) ≤ o) → (wr.setCell ⟨b, off + j, none⟩ (.int .i64 (k + j))).cell? ⟨b, o, none⟩ = w.cell? ⟨b, o, none⟩) := by
        intro o hoo
        rw [World.cell?_setCell_other _ _ _ _ (fun q => by have := congrArg Addr.off q; simp only at this; omega)]
        exact ho o (by omega)
      have HX := hide (hx.setCell ⟨b, off + j, none⟩ (.int .i64 (k + j)) rfl)
      clear hm hfz ho hx hc hf
      go_wp2
      go_roundw
      case rel => exact ⟨j + 1, by omega, by go_num, by go_num, unhide HM, unhide HF, unhide HO, unhide HX⟩
      case measure => simp [intOf]; omega
    · obtain rfl : j = zs.length := by omega
      have HM := hide hm
      have HF := hide hfz
      have HO := hide ho
      have HX := hide hx
      clear hm hfz ho hx hc hf
      go_wp2
      go_ret
      exact ⟨rfl, unhide HM, unhide HF, unhide HO, unhide HX⟩

theorem markI_zero (ao : Option Addr) (cap : Nat) (k : Int) (w : World) :
    Calls Try.prog 37 #[.slice ao 0 cap, .int .i64 k] w fun e w' => e = .returned (.int .i64 k) ∧ w' = w := by
  go_enter Try.func37, Try.ntmps37
  go_wp2
  refine wp_loop_rounds 1 ?_
  rw [rounds_succ]
  go_wp2
  go_ret
  exact ⟨rfl, rfl⟩

/-- markInt64S. -/
theorem mark_Int64S (v : Value) (zs : List Int) (bl : List Nat) (k : Int) (w : World) (h : (Lay.sl Lay.int).Own w [v] zs bl) (hk : 0 ≤ k) (hk2 : k + (Lay.sl Lay.int).vcnt zs ≤ 1000000000) :
    Calls Try.prog 37 #[v, .int .i64 k] w fun e w' => e = .returned (.int .i64 (k + (Lay.sl Lay.int).vcnt zs)) ∧ (Lay.sl Lay.int).Own w' [v] ((Lay.sl Lay.int).mkv k zs) bl ∧ Ext (fun q => q ∈ bl) w w' := by
  obtain ⟨hl, hn, hf⟩ := h
  rw [vcnt_ints] at hk2 ⊢
  rcases Lay.lies_ints.1 hl with ⟨ao, cap, rfl, hbig, hwf, ⟨rfl, rfl⟩ | ⟨b, off, rfl, hb, rfl, hc⟩⟩
  · refine (markI_zero ao cap k w).mono ?_
    rintro e w' ⟨rfl, rfl⟩
    exact ⟨by simp, ⟨hl, hn, hf⟩, Ext.refl _ _⟩
  · refine (markI_pos b off cap zs k w hk hk2 hc (hf b (by simp))).mono ?_
    rintro e w' ⟨rfl, hm, hfz, -, hx⟩
    refine ⟨rfl, ⟨Lay.lies_ints.2 ⟨_, cap, by rw [mk_ints_len], by rw [mk_ints_len]; exact hbig, mk_ints_wf k zs hk hk2, Or.inr ⟨b, off, rfl, Nat.lt_of_lt_of_le hb hx.size, rfl, fun j hj => ?_⟩⟩, hn, ?_⟩, hx.mono fun q _ e => by simp [e]⟩
    · rw [mk_ints_len] at hj
      rw [hm j hj, mk_ints_at k zs j hj]
    · intro b' hb' o
      obtain rfl : b' = b := by simpa using hb'
      exact hfz o

set_option maxHeartbeats 400000 in
theorem heldI_pos (b off cap n : Nat) (k : Int) (w : World) (hk : 0 ≤ k) (hk2 : k + n ≤ 1000000000) (hc : ∀ j, j < n → w.cell? ⟨b, off + j, none⟩ = some (.int .i64 (k + j))) :
    Calls Try.prog 40 #[.slice (some ⟨b, off, none⟩) n cap, .int .i64 k] w fun e w' => e = .returned (.int .i64 (k + n)) ∧ w' = w := by
  go_enter Try.func40, Try.ntmps40
  go_wp2
  go_loop [1, 5] (fun kk i => ∃ j : Nat, j ≤ n ∧ i = .int .i64 j ∧ kk = .int .i64 (k + j)) (fun _ i => n - (intOf i).toNat)
  case atStart => exact ⟨0, Nat.zero_le _, rfl, by simp⟩
  case round =>
    obtain ⟨j, hj, rfl, rfl⟩ := hrel
    by_cases hlt : j < n
    · have hcx := hc j hlt
      have hne : ((k + (j : Int)) != (k + (j : Int))) = false := by simp
      clear hc
      go_wp2
      go_round
      case rel => exact ⟨j + 1, by omega, by go_num, by go_num⟩
      case measure => simp [intOf]; omega
    · obtain rfl : j = n := by omega
      clear hc
      go_wp2
      go_ret
      exact ⟨rfl, rfl⟩
theorem heldI_zero (ao : Option Addr) (cap : Nat) (k : Int) (w : World) :
    Calls Try.prog 40 #[.slice ao 0 cap, .int .i64 k] w fun e w' => e = .returned (.int .i64 k) ∧ w' = w := by
  go_enter Try.func40, Try.ntmps40
  go_wp2
  refine wp_loop_rounds 1 ?_
  rw [rounds_succ]
  go_wp2
  go_ret
  exact ⟨rfl, rfl⟩
/-- heldInt64S. -/
theorem held_Int64S (v : Value) (zs : List Int) (k : Int) (w : World) (h : (Lay.sl Lay.int).Reads w [v] ((Lay.sl Lay.int).mkv k zs)) (hk : 0 ≤ k) (hk2 : k + (Lay.sl Lay.int).vcnt zs ≤ 1000000000) :
    Calls Try.prog 40 #[v, .int .i64 k] w fun e w' => e = .returned (.int .i64 (k + (Lay.sl Lay.int).vcnt zs)) ∧ Below w.heap.size w w' := by
  rw [vcnt_ints] at hk2 ⊢
  obtain ⟨ao, cap, rfl, hwf, hc⟩ := Lay.ints_reads h
  rw [mk_ints_len] at hc ⊢
  by_cases hp : 0 < zs.length
  · obtain ⟨b, off, rfl, hc1⟩ := hc hp
    refine (heldI_pos b off cap zs.length k w hk hk2 fun j hj => by rw [hc1 j hj, mk_ints_at k zs j hj]).mono ?_
    rintro e w' ⟨rfl, rfl⟩
    exact ⟨rfl, Below.refl _ _⟩
  · have e0 : zs.length = 0 := by omega
    rw [e0]
    refine (heldI_zero ao cap k w).mono ?_
    rintro e w' ⟨rfl, rfl⟩
    exact ⟨by simp, Below.refl _ _⟩

end Go.Proofs.Ythpbdafhjakekaa

namespace Go.Proofs.Ythpbdafhjakekaa
open Go.RowKit

set_option maxRecDepth 10000 in
set_option maxHeartbeats 1000000 in
theorem mark_Chain (cs : List Value) (x : DChain) (bl : List Nat) (k : Int) (w : World) (h : Lay.tChain.Own w cs x bl) (hk : 0 ≤ k) (hk2 : k + Lay.tChain.vcnt x ≤ 1000000000) :
    Calls Try.prog 25 #[.agg cs.toArray, .int .i64 k] w fun e w' => e = .returned (.int .i64 (k + Lay.tChain.vcnt x)) ∧ Lay.tChain.Own w' cs (Lay.tChain.mkv k x) bl ∧ Ext (fun q => q ∈ bl) w w' := by
  have hlt := h.lt
  have hnd := h.2.1
  rw [vcnt_Chain] at hk2
  obtain ⟨a1, d1, g1, rfl, hbl, O1, v0⟩ := own_Chain h
  clear h
  have HB0 : Below w.heap.size w (w.alloc (.cells #[.int .i64 x.epoch, .slice a1 x.ids.length d1] 24)) := (Below.refl _ _).alloc (Nat.le_refl _) _
  have bA : Box w.heap.size #[.int .i64 x.epoch, .slice a1 x.ids.length d1] 24 (w.alloc (.cells #[.int .i64 x.epoch, .slice a1 x.ids.length d1] 24)) w.heap.size := newBox (Nat.le_refl _)
  have HN := hide hnd
  have HV := hide (vcnt_Chain x)
  have HM := hide (mkv_Chain k x)
  clear hnd
  go_enter Try.func25, Try.ntmps25
  go_wp2_with fail
  generalize w.alloc (.cells #[.int .i64 x.epoch, .slice a1 x.ids.length d1] 24) = W0 at *
  replace O1 := O1.later HB0
  have hsz := HB0.size
  have EX : Ext (fun q => q ∈ bl) w W0 := ext_of_below HB0 _
  have hs0 := bA.lt
  refine (mark_Int64S _ x.ids g1 (k) _ O1 (by omega) (by omega)).mono ?_
  rintro e w1 ⟨rfl, Q1, E1⟩
  replace EX := EX.trans (E1.mono fun b _ hb => by rw [hbl]; simp [hb])
  replace bA := bA.ext E1 (fun hm => by have := hlt w.heap.size (by rw [hbl]; simp [hm]); omega)
  clear E1
  have HA := hide bA
  have HX := hide EX
  have HL := hide hlt
  have HBL := hide hbl
  clear bA EX hlt hbl
  have P1 := hide Q1
  clear Q1
  clear O1
  go_wp2_with fail
  go_ret
  refine ⟨?_, ?_, unhide HX⟩
  · rw [show k + (Lay.tChain.vcnt x : Int) = k + ((Lay.sl Lay.int).vcnt x.ids : Int) by rw [unhide HV]]
    rfl
  · have e := unhide HBL
    subst e
    rw [unhide HM]
    exact mkOwn_Chain (x := ⟨x.epoch, (Lay.sl Lay.int).mkv (k) x.ids⟩) (unhide P1) v0 (unhide HN)

end Go.Proofs.Ythpbdafhjakekaa

namespace Go.Proofs.Ythpbdafhjakekaa
open Go.RowKit

theorem vcnt_Node (x : DNode) : Lay.tNode.vcnt x = (Lay.sl Lay.tWrite).vcnt x.writes := by
  show 0 + (0 + (0 + (0 + ((Lay.sl Lay.tWrite).vcnt x.writes + (0 + (0)))))) = (Lay.sl Lay.tWrite).vcnt x.writes
  omega
theorem mkv_Node (k : Int) (x : DNode) : Lay.tNode.mkv k x = ⟨x.id, x.up, x.epoch, x.lease, (Lay.sl Lay.tWrite).mkv (k) x.writes, x.sure, x.clean⟩ := by
  simp [Lay.tNode, Lay.via, Lay.pair, Lay.int, Lay.bool]
theorem own_Node {w : World} {cs : List Value} {x : DNode} {bl : List Nat} (h : Lay.tNode.Own w cs x bl) : ∃ (a4 : Option Addr) (d4 : Nat) (g4 : List Nat), cs = [.int .i64 x.id, .bool x.up, .int .i64 x.epoch, .int .i64 x.lease, .slice a4 x.writes.length d4, .int .i64 x.sure, .int .i64 x.clean] ∧ bl = g4 ∧ (Lay.sl Lay.tWrite).Own w [.slice a4 x.writes.length d4] x.writes g4 ∧ (Lit.int .i64 x.id).wf = true ∧ (Lit.int .i64 x.epoch).wf = true ∧ (Lit.int .i64 x.lease).wf = true ∧ (Lit.int .i64 x.sure).wf = true ∧ (Lit.int .i64 x.clean).wf = true := by
  obtain ⟨hl, hn, hf⟩ := h
  obtain ⟨a4, d4, b4, rfl, hbl, w0, w2, w3, l4, w5, w6⟩ := lies_Node.1 hl
  rw [hbl] at hn hf
  exact ⟨a4, d4, b4, rfl, hbl, ⟨l4, hn, hf⟩, w0, w2, w3, w5, w6⟩
theorem mkOwn_Node {w : World} {x : DNode} {c4 : List Value} {g4 : List Nat} (O4 : (Lay.sl Lay.tWrite).Own w c4 x.writes g4) (v0 : (Lit.int .i64 x.id).wf = true) (v2 : (Lit.int .i64 x.epoch).wf = true) (v3 : (Lit.int .i64 x.lease).wf = true) (v5 : (Lit.int .i64 x.sure).wf = true) (v6 : (Lit.int .i64 x.clean).wf = true) (hn : (g4).Nodup) : Lay.tNode.Own w ([.int .i64 x.id] ++ ([.bool x.up] ++ ([.int .i64 x.epoch] ++ ([.int .i64 x.lease] ++ (c4 ++ ([.int .i64 x.sure] ++ ([.int .i64 x.clean]))))))) x (g4) := by
  refine ⟨⟨[.int .i64 x.id], [.bool x.up] ++ ([.int .i64 x.epoch] ++ ([.int .i64 x.lease] ++ (c4 ++ ([.int .i64 x.sure] ++ ([.int .i64 x.clean]))))), [], [] ++ ([] ++ ([] ++ (g4 ++ ([] ++ [])))), rfl, by simp, ⟨rfl, v0, rfl⟩, ⟨[.bool x.up], [.int .i64 x.epoch] ++ ([.int .i64 x.lease] ++ (c4 ++ ([.int .i64 x.sure] ++ ([.int .i64 x.clean])))), [], [] ++ ([] ++ (g4 ++ ([] ++ []))), rfl, rfl, ⟨rfl, rfl⟩, ⟨[.int .i64 x.epoch], [.int .i64 x.lease] ++ (c4 ++ ([.int .i64 x.sure] ++ ([.int .i64 x.clean]))), [], [] ++ (g4 ++ ([] ++ [])), rfl, rfl, ⟨rfl, v2, rfl⟩, ⟨[.int .i64 x.lease], c4 ++ ([.int .i64 x.sure] ++ ([.int .i64 x.clean])), [], g4 ++ ([] ++ []), rfl, rfl, ⟨rfl, v3, rfl⟩, ⟨c4, [.int .i64 x.sure] ++ ([.int .i64 x.clean]), g4, [] ++ [], rfl, rfl, O4.1, ⟨[.int .i64 x.sure], [.int .i64 x.clean], [], [], rfl, rfl, ⟨rfl, v5, rfl⟩, ⟨rfl, v6, rfl⟩⟩⟩⟩⟩⟩⟩, hn, ?_⟩
  intro b hb o
  exact O4.2.2 b hb o

end Go.Proofs.Ythpbdafhjakekaa

namespace Go.Proofs.Ythpbdafhjakekaa
open Go.RowKit

theorem cnt_Write (x : DWrite) : Lay.tWrite.cnt x = 4 + (Lay.sl Lay.int).vcnt x.vec := by
  show 1 + (1 + ((Lay.sl Lay.int).vcnt x.vec + (1 + (1)))) = 4 + (Lay.sl Lay.int).vcnt x.vec
  omega
theorem mkd_Write (k : Int) (x : DWrite) : Lay.tWrite.mkd k x = ⟨k, k + 1, (Lay.sl Lay.int).mkv (k + 1 + 1) x.vec, k + 1 + 1 + ((Lay.sl Lay.int).vcnt x.vec : Nat), k + 1 + 1 + ((Lay.sl Lay.int).vcnt x.vec : Nat) + 1⟩ := rfl
theorem vcnt_WriteS (xs : List DWrite) : (Lay.sl Lay.tWrite).vcnt xs = cntAll Lay.tWrite.cnt xs := rfl
theorem mkv_WriteS (k : Int) (xs : List DWrite) : (Lay.sl Lay.tWrite).mkv k xs = mkAll Lay.tWrite.cnt Lay.tWrite.mkd k xs := rfl

set_option maxRecDepth 10000 in
set_option maxHeartbeats 2000000 in
theorem markWrite_pos (b off cap : Nat) (xs : List DWrite) (bl : List Nat) (k : Int) (w : World) (h : (Lay.sl Lay.tWrite).Own w [.slice (some ⟨b, off, none⟩) xs.length cap] xs bl) (hk : 0 ≤ k) (hk2 : k + (cntAll Lay.tWrite.cnt xs : Nat) ≤ 1000000000) :
    Calls Try.prog 38 #[.slice (some ⟨b, off, none⟩) xs.length cap, .int .i64 k] w fun e w' => e = .returned (.int .i64 (k + (cntAll Lay.tWrite.cnt xs : Nat))) ∧ (Lay.sl Lay.tWrite).Own w' [.slice (some ⟨b, off, none⟩) xs.length cap] (mkAll Lay.tWrite.cnt Lay.tWrite.mkd k xs) bl ∧ Ext (fun q => q ∈ bl) w w' := by
  have hbig := h.reads.big
  have H := hide h
  clear h
  go_enter Try.func38, Try.ntmps38
  go_wp2_with fail
  go_loopw [1, 5] (fun kk i wr => ∃ (j : Nat) (kj : Int), j ≤ xs.length ∧ i = .int .i64 j ∧ kj = k + (cntAll Lay.tWrite.cnt (xs.take j) : Nat) ∧ kk = .int .i64 kj ∧ (Lay.sl Lay.tWrite).Own wr [.slice (some ⟨b, off, none⟩) xs.length cap] (mkPre Lay.tWrite.cnt Lay.tWrite.mkd k xs j) bl ∧ Ext (fun q => q ∈ bl) w wr) (fun _ i _ => xs.length - (intOf i).toNat)
  case atStart => exact ⟨0, k, Nat.zero_le _, rfl, by simp [cntAll], rfl, by rw [mkPre_zero]; exact unhide H, Ext.refl _ _⟩
  case round =>
    obtain ⟨j, kj, hj, rfl, hkj, rfl, hO, hX⟩ := hrel
    clear H
    by_cases hlt : j < xs.length
    · have hj2 : j < (mkPre Lay.tWrite.cnt Lay.tWrite.mkd k xs j).length := by rw [mkPre_len _ _ _ _ _ hj]; exact hlt
      obtain ⟨row, blk, R, O, hbk, hin, hfin⟩ := Lay.own_upd hO hj2
      rw [mkPre_get _ _ _ _ _ hlt] at O
      have HT := hide (Lay.cntAll_take (f := Lay.tWrite.cnt) hlt)
      have hle := Lay.cntAll_take_le (f := Lay.tWrite.cnt) (xs := xs) (k := j + 1)
      rw [unhide HT] at hle
      have HM : Hid (∀ y, y = Lay.tWrite.mkd kj xs[j] → (mkPre Lay.tWrite.cnt Lay.tWrite.mkd k xs j).set j y = mkPre Lay.tWrite.cnt Lay.tWrite.mkd k xs (j + 1)) := fun y e => by rw [e, hkj]; exact mkPre_set _ _ _ _ _ hlt
      have HF := hide hfin
      have HX := hide hX
      have HI := hide hin
      clear hO hfin hX hin hj2
      generalize hx : xs[j] = x at *
      clear hx
      have hcn := cnt_Write x
      have HD := hide (mkd_Write kj x)
      have hb1 : 0 ≤ kj := by omega
      have hb2 : kj + (Lay.tWrite.cnt x : Int) ≤ 1000000000 := by omega
      have HK := hide hkj
      clear hkj hle
      have hnd := O.2.1
      obtain ⟨a2, d2, g2, rfl, hbl, O2, v0, v1, v3, v4⟩ := own_Write O
      clear O
      subst hbl
      have HN := hide hnd
      clear hnd
      have l1 : b < wr.heap.size := R.lt
      have c0 : wr.cell? ⟨b, off + j * 5, none⟩ = some (.int .i64 x.kind) := R.at 0 _ rfl
      have f0 : wr.frozen? ⟨b, off + j * 5, none⟩ = false := R.soft _
      have c1 : wr.cell? ⟨b, off + j * 5 + 1, none⟩ = some (.int .i64 x.id) := R.at 1 _ rfl
      have f1 : wr.frozen? ⟨b, off + j * 5 + 1, none⟩ = false := R.soft _
      have c2 : wr.cell? ⟨b, off + j * 5 + 2, none⟩ = some (.slice a2 x.vec.length d2) := R.at 2 _ rfl
      have R0_ : RowAt wr ((wr.setCell ⟨b, off + j * 5, none⟩ (.int .i64 kj)).setCell ⟨b, off + j * 5 + 1, none⟩ (.int .i64 (kj + 1))) b (off + j * 5) 5 [.int .i64 kj, .int .i64 (kj + 1), .slice a2 x.vec.length d2, .int .i64 x.session, .int .i64 x.seq] blk := ((R.set 0 (.int .i64 kj) (by decide)).set 1 (.int .i64 (kj + 1)) (by decide))
      have E0_ : Ext (fun q => q = b) wr ((wr.setCell ⟨b, off + j * 5, none⟩ (.int .i64 kj)).setCell ⟨b, off + j * 5 + 1, none⟩ (.int .i64 (kj + 1))) := (((Ext.refl (fun q => q = b) _).setCell ⟨b, off + j * 5, none⟩ (.int .i64 kj) rfl).setCell ⟨b, off + j * 5 + 1, none⟩ (.int .i64 (kj + 1)) rfl)
      have O2_ := O2.ext E0_ (fun c hc e => hbk (e ▸ hc))
      clear O2
      have O2 := O2_
      clear O2_
      clear R E0_
      have R := R0_
      clear R0_
      have HR := hide R
      clear R
      go_wp2_with fail
      refine (mark_Int64S _ x.vec blk (kj + 1 + 1) _ O2 (by omega) (by omega)).mono ?_
      rintro e w2 ⟨rfl, Q2, E2⟩
      have R := (unhide HR).call E2 (fun _ h => h) hbk
      clear E2 O2 HR c0 c1 c2 f0 f1
      clear l1
      have l1 : b < w2.heap.size := R.lt
      have c3 : w2.cell? ⟨b, off + j * 5 + 3, none⟩ = some (.int .i64 x.session) := R.at 3 _ rfl
      have f3 : w2.frozen? ⟨b, off + j * 5 + 3, none⟩ = false := R.soft _
      have c4 : w2.cell? ⟨b, off + j * 5 + 4, none⟩ = some (.int .i64 x.seq) := R.at 4 _ rfl
      have f4 : w2.frozen? ⟨b, off + j * 5 + 4, none⟩ = false := R.soft _
      have R1_ : RowAt wr ((w2.setCell ⟨b, off + j * 5 + 3, none⟩ (.int .i64 (kj + 1 + 1 + ((Lay.sl Lay.int).vcnt x.vec : Nat)))).setCell ⟨b, off + j * 5 + 4, none⟩ (.int .i64 (kj + 1 + 1 + ((Lay.sl Lay.int).vcnt x.vec : Nat) + 1))) b (off + j * 5) 5 [.int .i64 kj, .int .i64 (kj + 1), .slice a2 x.vec.length d2, .int .i64 (kj + 1 + 1 + ((Lay.sl Lay.int).vcnt x.vec : Nat)), .int .i64 (kj + 1 + 1 + ((Lay.sl Lay.int).vcnt x.vec : Nat) + 1)] blk := ((R.set 3 (.int .i64 (kj + 1 + 1 + ((Lay.sl Lay.int).vcnt x.vec : Nat))) (by decide)).set 4 (.int .i64 (kj + 1 + 1 + ((Lay.sl Lay.int).vcnt x.vec : Nat) + 1)) (by decide))
      have E1_ : Ext (fun q => q = b) w2 ((w2.setCell ⟨b, off + j * 5 + 3, none⟩ (.int .i64 (kj + 1 + 1 + ((Lay.sl Lay.int).vcnt x.vec : Nat)))).setCell ⟨b, off + j * 5 + 4, none⟩ (.int .i64 (kj + 1 + 1 + ((Lay.sl Lay.int).vcnt x.vec : Nat) + 1))) := (((Ext.refl (fun q => q = b) _).setCell ⟨b, off + j * 5 + 3, none⟩ (.int .i64 (kj + 1 + 1 + ((Lay.sl Lay.int).vcnt x.vec : Nat))) rfl).setCell ⟨b, off + j * 5 + 4, none⟩ (.int .i64 (kj + 1 + 1 + ((Lay.sl Lay.int).vcnt x.vec : Nat) + 1)) rfl)
      have Q2_ := Q2.ext E1_ (fun c hc e => hbk (e ▸ hc))
      clear Q2
      have Q2 := hide Q2_
      clear Q2_
      clear R E1_
      have R := R1_
      clear R1_
      have HR := hide R
      clear R
      have HQ := hide (unhide Q2)
      clear Q2
      go_wp2_with fail
      go_roundw
      case rel =>
        refine ⟨j + 1, _, by omega, by go_num, ?_, rfl, ?_, ?_⟩
        · rw [unhide HT, hcn]
          have := unhide HK
          omega
        · rw [← unhide HM _ (unhide HD).symm]
          exact unhide HF _ _ _ (unhide HR) (mkOwn_Write (x := ⟨kj, kj + 1, (Lay.sl Lay.int).mkv (kj + 1 + 1) x.vec, kj + 1 + 1 + ((Lay.sl Lay.int).vcnt x.vec : Nat), kj + 1 + 1 + ((Lay.sl Lay.int).vcnt x.vec : Nat) + 1⟩) (unhide HQ) (show (Lit.int .i64 (kj)).wf = true from wf_of_bd (by omega)) (show (Lit.int .i64 (kj + 1)).wf = true from wf_of_bd (by omega)) (show (Lit.int .i64 (kj + 1 + 1 + ((Lay.sl Lay.int).vcnt x.vec : Nat))).wf = true from wf_of_bd (by omega)) (show (Lit.int .i64 (kj + 1 + 1 + ((Lay.sl Lay.int).vcnt x.vec : Nat) + 1)).wf = true from wf_of_bd (by omega)) (unhide HN))
        · exact (unhide HX).trans ((unhide HR).ext.mono fun q _ hq => unhide HI q (by rcases hq with h | h; exact Or.inl h.symm; exact Or.inr h))
      case measure => simp [intOf]; omega
    · obtain rfl : j = xs.length := by omega
      rw [mkPre_all] at hO
      rw [List.take_length] at hkj
      have HK := hide hkj
      clear hkj
      have HO := hide hO
      have HX := hide hX
      clear hO hX
      go_wp2_with fail
      go_ret
      exact ⟨by rw [← unhide HK]; rfl, unhide HO, unhide HX⟩

theorem markWrite_zero (ao : Option Addr) (cap : Nat) (k : Int) (w : World) :
    Calls Try.prog 38 #[.slice ao 0 cap, .int .i64 k] w fun e w' => e = .returned (.int .i64 k) ∧ w' = w := by
  go_enter Try.func38, Try.ntmps38
  go_wp2_with fail
  refine wp_loop_rounds 1 ?_
  rw [rounds_succ]
  go_wp2_with fail
  go_ret
  exact ⟨rfl, rfl⟩

/-- markWriteS. -/
theorem mark_WriteS (v : Value) (xs : List DWrite) (bl : List Nat) (k : Int) (w : World) (h : (Lay.sl Lay.tWrite).Own w [v] xs bl) (hk : 0 ≤ k) (hk2 : k + (Lay.sl Lay.tWrite).vcnt xs ≤ 1000000000) :
    Calls Try.prog 38 #[v, .int .i64 k] w fun e w' => e = .returned (.int .i64 (k + (Lay.sl Lay.tWrite).vcnt xs)) ∧ (Lay.sl Lay.tWrite).Own w' [v] ((Lay.sl Lay.tWrite).mkv k xs) bl ∧ Ext (fun q => q ∈ bl) w w' := by
  obtain ⟨ao, cap, rfl⟩ := open_sl h.reads
  by_cases hp : 0 < xs.length
  · obtain ⟨b, off, rfl, hbl⟩ := Lay.sl_addr h.reads hp
    exact markWrite_pos b off cap xs bl k w h hk hk2
  · obtain rfl : xs = [] := List.eq_nil_of_length_eq_zero (by omega)
    refine (markWrite_zero ao cap k w).mono ?_
    rintro e w' ⟨rfl, rfl⟩
    exact ⟨by rw [vcnt_WriteS]; simp [cntAll], h, Ext.refl _ _⟩

end Go.Proofs.Ythpbdafhjakekaa
