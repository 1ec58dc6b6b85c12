/-
  Texts of this proof in one: EqNodeS, EqMsg, EqMsgS, EqHit, EqHitS, EqEntry.
  Their conditions stand in their theorems.
-/
import Derived.Test.YthpbdafhjakekaaChecked
import Derived.Test.YthpbdafhjakekaaNw01
import Derived.Test.YthpbdafhjakekaaNw02
import Derived.Test.YthpbdafhjakekaaNw03
import Derived.Deep.RegionHeld3

namespace Go.Proofs.Ythpbdafhjakekaa
open Go.RowKit

set_option maxRecDepth 100000 in
set_option maxHeartbeats 2000000 in
theorem eq_NodeS (v v2 : Value) (xs : List DNode) (w : World) (h : (Lay.sl Lay.tNode).Reads w [v] xs) (h2 : (Lay.sl Lay.tNode).Reads w [v2] xs) :
    Calls Try.prog 22 #[v, v2] w fun e w' => e = .returned (.bool true) ∧ Below w.heap.size w w' := by
  have hbig := h.big
  obtain ⟨ao, cap, rfl⟩ := open_sl h
  obtain ⟨ao2, cap2, rfl⟩ := open_sl h2
  by_cases hp : 0 < xs.length
  · obtain ⟨b, off, rfl, hbl⟩ := Lay.sl_addr h hp
    obtain ⟨b2, off2, rfl, hbl2⟩ := Lay.sl_addr h2 hp
    have H := hide h
    have H2 := hide h2
    clear h h2
    go_enter Try.func22, Try.ntmps22
    go_wp2_with fail
    go_loopw [5] (fun i wr => ∃ k : Nat, k ≤ xs.length ∧ i = .int .i64 k ∧ Below w.heap.size w wr) (fun i _ => xs.length - (intOf i).toNat)
    case atStart => exact ⟨0, Nat.zero_le _, rfl, Below.refl _ _⟩
    case round =>
      obtain ⟨k, hk, rfl, hB⟩ := hrel
      by_cases hlt : k < xs.length
      · obtain ⟨row, hc, hr⟩ := Lay.row_at (unhide H) hlt
        obtain ⟨rowz, hcz, hrz⟩ := Lay.row_at (unhide H2) hlt
        have hr2 := hr
        obtain ⟨a4, d4, rfl, -⟩ := open_Node hr2
        have hrz2 := hrz
        obtain ⟨a4z, d4z, rfl, -⟩ := open_Node hrz2
        have c0 : w.cell? ⟨b, off + k * 7, none⟩ = some (.int .i64 (xs[k]).id) := ((Below.refl w.heap.size w).cell (p := ⟨b, off + k * 7, none⟩) hbl).trans (hc 0 (by decide))
        have c1 : w.cell? ⟨b, off + k * 7 + 1, none⟩ = some (.bool (xs[k]).up) := ((Below.refl w.heap.size w).cell (p := ⟨b, off + k * 7 + 1, none⟩) hbl).trans (hc 1 (by decide))
        have c2 : w.cell? ⟨b, off + k * 7 + 2, none⟩ = some (.int .i64 (xs[k]).epoch) := ((Below.refl w.heap.size w).cell (p := ⟨b, off + k * 7 + 2, none⟩) hbl).trans (hc 2 (by decide))
        have c3 : w.cell? ⟨b, off + k * 7 + 3, none⟩ = some (.int .i64 (xs[k]).lease) := ((Below.refl w.heap.size w).cell (p := ⟨b, off + k * 7 + 3, none⟩) hbl).trans (hc 3 (by decide))
        have c4 : w.cell? ⟨b, off + k * 7 + 4, none⟩ = some (.slice a4 (xs[k]).writes.length d4) := ((Below.refl w.heap.size w).cell (p := ⟨b, off + k * 7 + 4, none⟩) hbl).trans (hc 4 (by decide))
        have c5 : w.cell? ⟨b, off + k * 7 + 5, none⟩ = some (.int .i64 (xs[k]).sure) := ((Below.refl w.heap.size w).cell (p := ⟨b, off + k * 7 + 5, none⟩) hbl).trans (hc 5 (by decide))
        have c6 : w.cell? ⟨b, off + k * 7 + 6, none⟩ = some (.int .i64 (xs[k]).clean) := ((Below.refl w.heap.size w).cell (p := ⟨b, off + k * 7 + 6, none⟩) hbl).trans (hc 6 (by decide))
        have c0z : w.cell? ⟨b2, off2 + k * 7, none⟩ = some (.int .i64 (xs[k]).id) := ((Below.refl w.heap.size w).cell (p := ⟨b2, off2 + k * 7, none⟩) hbl2).trans (hcz 0 (by decide))
        have c1z : w.cell? ⟨b2, off2 + k * 7 + 1, none⟩ = some (.bool (xs[k]).up) := ((Below.refl w.heap.size w).cell (p := ⟨b2, off2 + k * 7 + 1, none⟩) hbl2).trans (hcz 1 (by decide))
        have c2z : w.cell? ⟨b2, off2 + k * 7 + 2, none⟩ = some (.int .i64 (xs[k]).epoch) := ((Below.refl w.heap.size w).cell (p := ⟨b2, off2 + k * 7 + 2, none⟩) hbl2).trans (hcz 2 (by decide))
        have c3z : w.cell? ⟨b2, off2 + k * 7 + 3, none⟩ = some (.int .i64 (xs[k]).lease) := ((Below.refl w.heap.size w).cell (p := ⟨b2, off2 + k * 7 + 3, none⟩) hbl2).trans (hcz 3 (by decide))
        have c4z : w.cell? ⟨b2, off2 + k * 7 + 4, none⟩ = some (.slice a4z (xs[k]).writes.length d4z) := ((Below.refl w.heap.size w).cell (p := ⟨b2, off2 + k * 7 + 4, none⟩) hbl2).trans (hcz 4 (by decide))
        have c5z : w.cell? ⟨b2, off2 + k * 7 + 5, none⟩ = some (.int .i64 (xs[k]).sure) := ((Below.refl w.heap.size w).cell (p := ⟨b2, off2 + k * 7 + 5, none⟩) hbl2).trans (hcz 5 (by decide))
        have c6z : w.cell? ⟨b2, off2 + k * 7 + 6, none⟩ = some (.int .i64 (xs[k]).clean) := ((Below.refl w.heap.size w).cell (p := ⟨b2, off2 + k * 7 + 6, none⟩) hbl2).trans (hcz 6 (by decide))
        clear hc hcz
        have HR := hide hr
        have HRZ := hide hrz
        clear hr hrz
        have HB := hide hB
        clear hB
        generalize hxk : xs[k] = x at *
        clear hxk
        have i1 : (0 : Int) ≤ (k : Int) := by omega
        have i2 : (k : Int) < (xs.length : Int) := by omega
        go_wp2_with fail
        refine wp_region_noPanic ?_
        refine wp_region_held_drew (S := fun w' => Below w.heap.size w w') (by kernel_rfl) (unhide HB).drew (fun hHeld => ?_)
        generalize wr.drew = wD at hHeld ⊢
        refine wpAnyH_take (i := 0) (oi := { dst := some 17, op := Go.Op.move (Go.Operand.tmp 0), type := 25, pos := "exact.go:1361", after := #[], guard := none }) (v := ?v0) rfl (by kernel_rfl) (by kernel_rfl) (by kernel_rfl) (fun _ _ _ h => h) (Or.inl ⟨by rfl, ?h0⟩) hHeld ?r0
        case h0 =>
          intro wS hSw
          (try dsimp only at hSw)
          go_simp
          try with_reducible rfl
        case r0 =>
        simp only [Act.put, List.setIfInBounds_toArray, List.set_cons_zero, List.set_cons_succ]
        refine wpAnyH_take (i := 1) (oi := { dst := some 18, op := Go.Op.move (Go.Operand.tmp 5), type := 3, pos := "exact.go:1361", after := #[], guard := none }) (v := ?v1) rfl (by kernel_rfl) (by kernel_rfl) (by kernel_rfl) (fun _ _ _ h => h) (Or.inl ⟨by rfl, ?h1⟩) hHeld ?r1
        case h1 =>
          intro wS hSw
          (try dsimp only at hSw)
          go_simp
          try with_reducible rfl
        case r1 =>
        simp only [Act.put, List.setIfInBounds_toArray, List.set_cons_zero, List.set_cons_succ]
        refine wpAnyH_take (i := 2) (oi := { dst := some 19, op := Go.Op.indexAddr 25 (Go.Operand.tmp 17) (Go.Operand.tmp 18), type := 0, pos := "exact.go:1361", after := #[{ on := 0, ground := Go.Ground.data }, { on := 1, ground := Go.Ground.data }], guard := none }) (v := ?v2) rfl (by kernel_rfl) (by kernel_rfl) (by kernel_rfl) (fun _ _ _ h => h) (Or.inl ⟨by rfl, ?h2⟩) hHeld ?r2
        case h2 =>
          intro wS hSw
          (try dsimp only at hSw)
          go_simp
          try with_reducible rfl
        case r2 =>
        simp only [Act.put, List.setIfInBounds_toArray, List.set_cons_zero, List.set_cons_succ]
        refine wpAnyH_take (i := 3) (oi := { dst := some 20, op := Go.Op.load 42 (Go.Operand.tmp 19), type := 42, pos := "exact.go:1361", after := #[{ on := 2, ground := Go.Ground.data }], guard := none }) (v := ?v3) rfl (by kernel_rfl) (by kernel_rfl) (by kernel_rfl) (fun _ _ _ h => h) (Or.inl ⟨by rfl, ?h3⟩) hHeld ?r3
        case h3 =>
          intro wS hSw
          have y0 := (hSw.cell (p := ⟨b, off + k * 7, none⟩) hbl).trans c0
          have y1 := (hSw.cell (p := ⟨b, off + k * 7 + 1, none⟩) hbl).trans c1
          have y2 := (hSw.cell (p := ⟨b, off + k * 7 + 2, none⟩) hbl).trans c2
          have y3 := (hSw.cell (p := ⟨b, off + k * 7 + 3, none⟩) hbl).trans c3
          have y4 := (hSw.cell (p := ⟨b, off + k * 7 + 4, none⟩) hbl).trans c4
          have y5 := (hSw.cell (p := ⟨b, off + k * 7 + 5, none⟩) hbl).trans c5
          have y6 := (hSw.cell (p := ⟨b, off + k * 7 + 6, none⟩) hbl).trans c6
          clear hSw
          (try dsimp only at hSw)
          go_simp
          try with_reducible rfl
        case r3 =>
        simp only [Act.put, List.setIfInBounds_toArray, List.set_cons_zero, List.set_cons_succ]
        refine wpAnyH_take (i := 4) (oi := { dst := some 21, op := Go.Op.move (Go.Operand.tmp 1), type := 25, pos := "exact.go:1361", after := #[], guard := none }) (v := ?v4) rfl (by kernel_rfl) (by kernel_rfl) (by kernel_rfl) (fun _ _ _ h => h) (Or.inl ⟨by rfl, ?h4⟩) hHeld ?r4
        case h4 =>
          intro wS hSw
          (try dsimp only at hSw)
          go_simp
          try with_reducible rfl
        case r4 =>
        simp only [Act.put, List.setIfInBounds_toArray, List.set_cons_zero, List.set_cons_succ]
        refine wpAnyH_take (i := 5) (oi := { dst := some 22, op := Go.Op.move (Go.Operand.tmp 5), type := 3, pos := "exact.go:1361", after := #[], guard := none }) (v := ?v5) rfl (by kernel_rfl) (by kernel_rfl) (by kernel_rfl) (fun _ _ _ h => h) (Or.inl ⟨by rfl, ?h5⟩) hHeld ?r5
        case h5 =>
          intro wS hSw
          (try dsimp only at hSw)
          go_simp
          try with_reducible rfl
        case r5 =>
        simp only [Act.put, List.setIfInBounds_toArray, List.set_cons_zero, List.set_cons_succ]
        refine wpAnyH_take (i := 6) (oi := { dst := some 23, op := Go.Op.indexAddr 25 (Go.Operand.tmp 21) (Go.Operand.tmp 22), type := 0, pos := "exact.go:1361", after := #[{ on := 4, ground := Go.Ground.data }, { on := 5, ground := Go.Ground.data }], guard := none }) (v := ?v6) rfl (by kernel_rfl) (by kernel_rfl) (by kernel_rfl) (fun _ _ _ h => h) (Or.inl ⟨by rfl, ?h6⟩) hHeld ?r6
        case h6 =>
          intro wS hSw
          (try dsimp only at hSw)
          go_simp
          try with_reducible rfl
        case r6 =>
        simp only [Act.put, List.setIfInBounds_toArray, List.set_cons_zero, List.set_cons_succ]
        refine wpAnyH_take (i := 7) (oi := { dst := some 24, op := Go.Op.load 42 (Go.Operand.tmp 23), type := 42, pos := "exact.go:1361", after := #[{ on := 6, ground := Go.Ground.data }], guard := none }) (v := ?v7) rfl (by kernel_rfl) (by kernel_rfl) (by kernel_rfl) (fun _ _ _ h => h) (Or.inl ⟨by rfl, ?h7⟩) hHeld ?r7
        case h7 =>
          intro wS hSw
          have y0z := (hSw.cell (p := ⟨b2, off2 + k * 7, none⟩) hbl2).trans c0z
          have y1z := (hSw.cell (p := ⟨b2, off2 + k * 7 + 1, none⟩) hbl2).trans c1z
          have y2z := (hSw.cell (p := ⟨b2, off2 + k * 7 + 2, none⟩) hbl2).trans c2z
          have y3z := (hSw.cell (p := ⟨b2, off2 + k * 7 + 3, none⟩) hbl2).trans c3z
          have y4z := (hSw.cell (p := ⟨b2, off2 + k * 7 + 4, none⟩) hbl2).trans c4z
          have y5z := (hSw.cell (p := ⟨b2, off2 + k * 7 + 5, none⟩) hbl2).trans c5z
          have y6z := (hSw.cell (p := ⟨b2, off2 + k * 7 + 6, none⟩) hbl2).trans c6z
          clear hSw
          (try dsimp only at hSw)
          go_simp
          try with_reducible rfl
        case r7 =>
        simp only [Act.put, List.setIfInBounds_toArray, List.set_cons_zero, List.set_cons_succ]
        refine wpAnyH_ready (rs := [8]) (by kernel_rfl) (by simp) ?_
        refine AllReadyH.cons (o := { dst := some 25, op := Go.Op.call { callee := Go.Callee.value (Go.Operand.func 34), args := #[Go.Operand.tmp 20, Go.Operand.tmp 24], argTypes := #[42, 42] }, type := 4, pos := "exact.go:1361", after := #[{ on := 3, ground := Go.Ground.data }, { on := 7, ground := Go.Ground.data }], guard := none }) rfl (fun K hK => ?_) AllReadyH.nil
        go_simp
        go_at_call 34
        refine (eq_Node _ _ x _ ((unhide HR).later hHeld) ((unhide HRZ).later hHeld)).mono ?_
        rintro e w3 ⟨rfl, hbw⟩
        try go_wp2_with fail
        refine hK.out _ _ (hHeld.trans (hbw.mono hHeld.size)) (fun hHeld => ?_)
        clear hK K
        try simp only [Act.put, List.setIfInBounds_toArray, List.set_cons_zero, List.set_cons_succ]
        refine wpAnyH_take (i := 9) (oi := { dst := some 26, op := Go.Op.unOp Go.UnOp.not 4 (Go.Operand.tmp 25), type := 4, pos := "exact.go:1361", after := #[{ on := 8, ground := Go.Ground.data }], guard := none }) (v := ?v9) rfl (by kernel_rfl) (by kernel_rfl) (by kernel_rfl) (fun _ _ _ h => h) (Or.inl ⟨by rfl, ?h9⟩) hHeld ?r9
        case h9 =>
          intro wS hSw
          (try dsimp only at hSw)
          go_simp
          try with_reducible rfl
        case r9 =>
        simp only [Act.put, List.setIfInBounds_toArray, List.set_cons_zero, List.set_cons_succ]
        refine wpAnyH_done (by kernel_rfl) ?_ _
        refine NoPanic.normal ?_
        have HB3 := hide hHeld
        clear hHeld c0 c0z c1 c1z c2 c2z c3 c3z c4 c4z c5 c5z c6 c6z HB
        go_wp2_with fail
        go_roundw
        case rel => exact ⟨k + 1, by omega, by go_num, unhide HB3⟩
        case measure => simp [intOf]; omega
      · have HB := hide hB
        clear hB
        go_wp2_with fail
        go_ret
        exact ⟨rfl, unhide HB⟩
  · obtain rfl : xs = [] := List.eq_nil_of_length_eq_zero (by omega)
    clear h h2 hp
    simp only [List.length_nil] at *
    go_enter Try.func22, Try.ntmps22
    go_wp2_with fail
    refine wp_loop_rounds 1 ?_
    rw [rounds_succ]
    go_wp2_with fail
    go_ret
    exact ⟨rfl, Below.refl _ _⟩

end Go.Proofs.Ythpbdafhjakekaa

namespace Go.Proofs.Ythpbdafhjakekaa
open Go.RowKit

set_option maxRecDepth 10000 in
set_option maxHeartbeats 1000000 in
theorem eq_Msg (cs cs2 : List Value) (x : DMsg) (w : World) (h : Lay.tMsg.Reads w cs x) (h2 : Lay.tMsg.Reads w cs2 x) :
    Calls Try.prog 35 #[.agg cs.toArray, .agg cs2.toArray] w fun e w' => e = .returned (.bool true) ∧ Below w.heap.size w w' := by
  obtain ⟨a7, d7, rfl, R5⟩ := open_Msg h
  obtain ⟨a7z, d7z, rfl, R5z⟩ := open_Msg h2
  clear h h2
  have e0 : (x.kind != x.kind) = false := by simp
  have e1 : (x.epoch != x.epoch) = false := by simp
  have e2 : (x.src != x.src) = false := by simp
  have e3 : (x.dst != x.dst) = false := by simp
  have e4 : (x.index != x.index) = false := by simp
  have e5 : (x.write.kind != x.write.kind) = false := by simp
  have e6 : (x.write.id != x.write.id) = false := by simp
  have e8 : (x.write.session != x.write.session) = false := by simp
  have e9 : (x.write.seq != x.write.seq) = false := by simp
  have HB0 : Below w.heap.size w ((w.alloc (.cells #[.int .i64 x.kind, .int .i64 x.epoch, .int .i64 x.src, .int .i64 x.dst, .int .i64 x.index, .int .i64 x.write.kind, .int .i64 x.write.id, .slice a7 x.write.vec.length d7, .int .i64 x.write.session, .int .i64 x.write.seq] 64)).alloc (.cells #[.int .i64 x.kind, .int .i64 x.epoch, .int .i64 x.src, .int .i64 x.dst, .int .i64 x.index, .int .i64 x.write.kind, .int .i64 x.write.id, .slice a7z x.write.vec.length d7z, .int .i64 x.write.session, .int .i64 x.write.seq] 64)) := ((Below.refl _ _).alloc (Nat.le_refl _) _).alloc (by simp) _
  have bA : Box w.heap.size #[.int .i64 x.kind, .int .i64 x.epoch, .int .i64 x.src, .int .i64 x.dst, .int .i64 x.index, .int .i64 x.write.kind, .int .i64 x.write.id, .slice a7 x.write.vec.length d7, .int .i64 x.write.session, .int .i64 x.write.seq] 64 ((w.alloc (.cells #[.int .i64 x.kind, .int .i64 x.epoch, .int .i64 x.src, .int .i64 x.dst, .int .i64 x.index, .int .i64 x.write.kind, .int .i64 x.write.id, .slice a7 x.write.vec.length d7, .int .i64 x.write.session, .int .i64 x.write.seq] 64)).alloc (.cells #[.int .i64 x.kind, .int .i64 x.epoch, .int .i64 x.src, .int .i64 x.dst, .int .i64 x.index, .int .i64 x.write.kind, .int .i64 x.write.id, .slice a7z x.write.vec.length d7z, .int .i64 x.write.session, .int .i64 x.write.seq] 64)) w.heap.size := (newBox (Nat.le_refl _)).grow _
  have bC : Box w.heap.size #[.int .i64 x.kind, .int .i64 x.epoch, .int .i64 x.src, .int .i64 x.dst, .int .i64 x.index, .int .i64 x.write.kind, .int .i64 x.write.id, .slice a7z x.write.vec.length d7z, .int .i64 x.write.session, .int .i64 x.write.seq] 64 ((w.alloc (.cells #[.int .i64 x.kind, .int .i64 x.epoch, .int .i64 x.src, .int .i64 x.dst, .int .i64 x.index, .int .i64 x.write.kind, .int .i64 x.write.id, .slice a7 x.write.vec.length d7, .int .i64 x.write.session, .int .i64 x.write.seq] 64)).alloc (.cells #[.int .i64 x.kind, .int .i64 x.epoch, .int .i64 x.src, .int .i64 x.dst, .int .i64 x.index, .int .i64 x.write.kind, .int .i64 x.write.id, .slice a7z x.write.vec.length d7z, .int .i64 x.write.session, .int .i64 x.write.seq] 64)) (w.heap.size + 1) := newBoxAt (by omega) (by simp)
  go_enter Try.func35, Try.ntmps35
  go_wp2_with fail
  generalize (w.alloc (.cells #[.int .i64 x.kind, .int .i64 x.epoch, .int .i64 x.src, .int .i64 x.dst, .int .i64 x.index, .int .i64 x.write.kind, .int .i64 x.write.id, .slice a7 x.write.vec.length d7, .int .i64 x.write.session, .int .i64 x.write.seq] 64)).alloc (.cells #[.int .i64 x.kind, .int .i64 x.epoch, .int .i64 x.src, .int .i64 x.dst, .int .i64 x.index, .int .i64 x.write.kind, .int .i64 x.write.id, .slice a7z x.write.vec.length d7z, .int .i64 x.write.session, .int .i64 x.write.seq] 64) = W0 at *
  replace R5 := R5.later HB0
  replace R5z := R5z.later HB0
  refine (eq_Write _ _ x.write _ R5 R5z).mono ?_
  rintro e w1 ⟨rfl, hb⟩
  replace bA := bA.keep hb
  replace bC := bC.keep hb
  replace HB0 := HB0.trans (hb.mono HB0.size)
  clear hb
  have HB := hide HB0
  have HA := hide bA
  have HC := hide bC
  clear HB0 bA bC
  go_wp2_with fail
  go_ret
  exact ⟨rfl, unhide HB⟩

end Go.Proofs.Ythpbdafhjakekaa

namespace Go.Proofs.Ythpbdafhjakekaa
open Go.RowKit

set_option maxRecDepth 100000 in
set_option maxHeartbeats 2000000 in
theorem eq_MsgS (v v2 : Value) (xs : List DMsg) (w : World) (h : (Lay.sl Lay.tMsg).Reads w [v] xs) (h2 : (Lay.sl Lay.tMsg).Reads w [v2] xs) :
    Calls Try.prog 23 #[v, v2] w fun e w' => e = .returned (.bool true) ∧ Below w.heap.size w w' := by
  have hbig := h.big
  obtain ⟨ao, cap, rfl⟩ := open_sl h
  obtain ⟨ao2, cap2, rfl⟩ := open_sl h2
  by_cases hp : 0 < xs.length
  · obtain ⟨b, off, rfl, hbl⟩ := Lay.sl_addr h hp
    obtain ⟨b2, off2, rfl, hbl2⟩ := Lay.sl_addr h2 hp
    have H := hide h
    have H2 := hide h2
    clear h h2
    go_enter Try.func23, Try.ntmps23
    go_wp2_with fail
    go_loopw [5] (fun i wr => ∃ k : Nat, k ≤ xs.length ∧ i = .int .i64 k ∧ Below w.heap.size w wr) (fun i _ => xs.length - (intOf i).toNat)
    case atStart => exact ⟨0, Nat.zero_le _, rfl, Below.refl _ _⟩
    case round =>
      obtain ⟨k, hk, rfl, hB⟩ := hrel
      by_cases hlt : k < xs.length
      · obtain ⟨row, hc, hr⟩ := Lay.row_at (unhide H) hlt
        obtain ⟨rowz, hcz, hrz⟩ := Lay.row_at (unhide H2) hlt
        have hr2 := hr
        obtain ⟨a7, d7, rfl, -⟩ := open_Msg hr2
        have hrz2 := hrz
        obtain ⟨a7z, d7z, rfl, -⟩ := open_Msg hrz2
        have c0 : w.cell? ⟨b, off + k * 10, none⟩ = some (.int .i64 (xs[k]).kind) := ((Below.refl w.heap.size w).cell (p := ⟨b, off + k * 10, none⟩) hbl).trans (hc 0 (by decide))
        have c1 : w.cell? ⟨b, off + k * 10 + 1, none⟩ = some (.int .i64 (xs[k]).epoch) := ((Below.refl w.heap.size w).cell (p := ⟨b, off + k * 10 + 1, none⟩) hbl).trans (hc 1 (by decide))
        have c2 : w.cell? ⟨b, off + k * 10 + 2, none⟩ = some (.int .i64 (xs[k]).src) := ((Below.refl w.heap.size w).cell (p := ⟨b, off + k * 10 + 2, none⟩) hbl).trans (hc 2 (by decide))
        have c3 : w.cell? ⟨b, off + k * 10 + 3, none⟩ = some (.int .i64 (xs[k]).dst) := ((Below.refl w.heap.size w).cell (p := ⟨b, off + k * 10 + 3, none⟩) hbl).trans (hc 3 (by decide))
        have c4 : w.cell? ⟨b, off + k * 10 + 4, none⟩ = some (.int .i64 (xs[k]).index) := ((Below.refl w.heap.size w).cell (p := ⟨b, off + k * 10 + 4, none⟩) hbl).trans (hc 4 (by decide))
        have c5 : w.cell? ⟨b, off + k * 10 + 5, none⟩ = some (.int .i64 (xs[k]).write.kind) := ((Below.refl w.heap.size w).cell (p := ⟨b, off + k * 10 + 5, none⟩) hbl).trans (hc 5 (by decide))
        have c6 : w.cell? ⟨b, off + k * 10 + 6, none⟩ = some (.int .i64 (xs[k]).write.id) := ((Below.refl w.heap.size w).cell (p := ⟨b, off + k * 10 + 6, none⟩) hbl).trans (hc 6 (by decide))
        have c7 : w.cell? ⟨b, off + k * 10 + 7, none⟩ = some (.slice a7 (xs[k]).write.vec.length d7) := ((Below.refl w.heap.size w).cell (p := ⟨b, off + k * 10 + 7, none⟩) hbl).trans (hc 7 (by decide))
        have c8 : w.cell? ⟨b, off + k * 10 + 8, none⟩ = some (.int .i64 (xs[k]).write.session) := ((Below.refl w.heap.size w).cell (p := ⟨b, off + k * 10 + 8, none⟩) hbl).trans (hc 8 (by decide))
        have c9 : w.cell? ⟨b, off + k * 10 + 9, none⟩ = some (.int .i64 (xs[k]).write.seq) := ((Below.refl w.heap.size w).cell (p := ⟨b, off + k * 10 + 9, none⟩) hbl).trans (hc 9 (by decide))
        have c0z : w.cell? ⟨b2, off2 + k * 10, none⟩ = some (.int .i64 (xs[k]).kind) := ((Below.refl w.heap.size w).cell (p := ⟨b2, off2 + k * 10, none⟩) hbl2).trans (hcz 0 (by decide))
        have c1z : w.cell? ⟨b2, off2 + k * 10 + 1, none⟩ = some (.int .i64 (xs[k]).epoch) := ((Below.refl w.heap.size w).cell (p := ⟨b2, off2 + k * 10 + 1, none⟩) hbl2).trans (hcz 1 (by decide))
        have c2z : w.cell? ⟨b2, off2 + k * 10 + 2, none⟩ = some (.int .i64 (xs[k]).src) := ((Below.refl w.heap.size w).cell (p := ⟨b2, off2 + k * 10 + 2, none⟩) hbl2).trans (hcz 2 (by decide))
        have c3z : w.cell? ⟨b2, off2 + k * 10 + 3, none⟩ = some (.int .i64 (xs[k]).dst) := ((Below.refl w.heap.size w).cell (p := ⟨b2, off2 + k * 10 + 3, none⟩) hbl2).trans (hcz 3 (by decide))
        have c4z : w.cell? ⟨b2, off2 + k * 10 + 4, none⟩ = some (.int .i64 (xs[k]).index) := ((Below.refl w.heap.size w).cell (p := ⟨b2, off2 + k * 10 + 4, none⟩) hbl2).trans (hcz 4 (by decide))
        have c5z : w.cell? ⟨b2, off2 + k * 10 + 5, none⟩ = some (.int .i64 (xs[k]).write.kind) := ((Below.refl w.heap.size w).cell (p := ⟨b2, off2 + k * 10 + 5, none⟩) hbl2).trans (hcz 5 (by decide))
        have c6z : w.cell? ⟨b2, off2 + k * 10 + 6, none⟩ = some (.int .i64 (xs[k]).write.id) := ((Below.refl w.heap.size w).cell (p := ⟨b2, off2 + k * 10 + 6, none⟩) hbl2).trans (hcz 6 (by decide))
        have c7z : w.cell? ⟨b2, off2 + k * 10 + 7, none⟩ = some (.slice a7z (xs[k]).write.vec.length d7z) := ((Below.refl w.heap.size w).cell (p := ⟨b2, off2 + k * 10 + 7, none⟩) hbl2).trans (hcz 7 (by decide))
        have c8z : w.cell? ⟨b2, off2 + k * 10 + 8, none⟩ = some (.int .i64 (xs[k]).write.session) := ((Below.refl w.heap.size w).cell (p := ⟨b2, off2 + k * 10 + 8, none⟩) hbl2).trans (hcz 8 (by decide))
        have c9z : w.cell? ⟨b2, off2 + k * 10 + 9, none⟩ = some (.int .i64 (xs[k]).write.seq) := ((Below.refl w.heap.size w).cell (p := ⟨b2, off2 + k * 10 + 9, none⟩) hbl2).trans (hcz 9 (by decide))
        clear hc hcz
        have HR := hide hr
        have HRZ := hide hrz
        clear hr hrz
        have HB := hide hB
        clear hB
        generalize hxk : xs[k] = x at *
        clear hxk
        have i1 : (0 : Int) ≤ (k : Int) := by omega
        have i2 : (k : Int) < (xs.length : Int) := by omega
        go_wp2_with fail
        refine wp_region_noPanic ?_
        refine wp_region_held_drew (S := fun w' => Below w.heap.size w w') (by kernel_rfl) (unhide HB).drew (fun hHeld => ?_)
        generalize wr.drew = wD at hHeld ⊢
        refine wpAnyH_take (i := 0) (oi := { dst := some 17, op := Go.Op.move (Go.Operand.tmp 0), type := 26, pos := "exact.go:1135", after := #[], guard := none }) (v := ?v0) rfl (by kernel_rfl) (by kernel_rfl) (by kernel_rfl) (fun _ _ _ h => h) (Or.inl ⟨by rfl, ?h0⟩) hHeld ?r0
        case h0 =>
          intro wS hSw
          (try dsimp only at hSw)
          go_simp
          try with_reducible rfl
        case r0 =>
        simp only [Act.put, List.setIfInBounds_toArray, List.set_cons_zero, List.set_cons_succ]
        refine wpAnyH_take (i := 1) (oi := { dst := some 18, op := Go.Op.move (Go.Operand.tmp 5), type := 3, pos := "exact.go:1135", after := #[], guard := none }) (v := ?v1) rfl (by kernel_rfl) (by kernel_rfl) (by kernel_rfl) (fun _ _ _ h => h) (Or.inl ⟨by rfl, ?h1⟩) hHeld ?r1
        case h1 =>
          intro wS hSw
          (try dsimp only at hSw)
          go_simp
          try with_reducible rfl
        case r1 =>
        simp only [Act.put, List.setIfInBounds_toArray, List.set_cons_zero, List.set_cons_succ]
        refine wpAnyH_take (i := 2) (oi := { dst := some 19, op := Go.Op.indexAddr 26 (Go.Operand.tmp 17) (Go.Operand.tmp 18), type := 0, pos := "exact.go:1135", after := #[{ on := 0, ground := Go.Ground.data }, { on := 1, ground := Go.Ground.data }], guard := none }) (v := ?v2) rfl (by kernel_rfl) (by kernel_rfl) (by kernel_rfl) (fun _ _ _ h => h) (Or.inl ⟨by rfl, ?h2⟩) hHeld ?r2
        case h2 =>
          intro wS hSw
          (try dsimp only at hSw)
          go_simp
          try with_reducible rfl
        case r2 =>
        simp only [Act.put, List.setIfInBounds_toArray, List.set_cons_zero, List.set_cons_succ]
        refine wpAnyH_take (i := 3) (oi := { dst := some 20, op := Go.Op.load 64 (Go.Operand.tmp 19), type := 64, pos := "exact.go:1135", after := #[{ on := 2, ground := Go.Ground.data }], guard := none }) (v := ?v3) rfl (by kernel_rfl) (by kernel_rfl) (by kernel_rfl) (fun _ _ _ h => h) (Or.inl ⟨by rfl, ?h3⟩) hHeld ?r3
        case h3 =>
          intro wS hSw
          have y0 := (hSw.cell (p := ⟨b, off + k * 10, none⟩) hbl).trans c0
          have y1 := (hSw.cell (p := ⟨b, off + k * 10 + 1, none⟩) hbl).trans c1
          have y2 := (hSw.cell (p := ⟨b, off + k * 10 + 2, none⟩) hbl).trans c2
          have y3 := (hSw.cell (p := ⟨b, off + k * 10 + 3, none⟩) hbl).trans c3
          have y4 := (hSw.cell (p := ⟨b, off + k * 10 + 4, none⟩) hbl).trans c4
          have y5 := (hSw.cell (p := ⟨b, off + k * 10 + 5, none⟩) hbl).trans c5
          have y6 := (hSw.cell (p := ⟨b, off + k * 10 + 6, none⟩) hbl).trans c6
          have y7 := (hSw.cell (p := ⟨b, off + k * 10 + 7, none⟩) hbl).trans c7
          have y8 := (hSw.cell (p := ⟨b, off + k * 10 + 8, none⟩) hbl).trans c8
          have y9 := (hSw.cell (p := ⟨b, off + k * 10 + 9, none⟩) hbl).trans c9
          clear hSw
          (try dsimp only at hSw)
          go_simp
          try with_reducible rfl
        case r3 =>
        simp only [Act.put, List.setIfInBounds_toArray, List.set_cons_zero, List.set_cons_succ]
        refine wpAnyH_take (i := 4) (oi := { dst := some 21, op := Go.Op.move (Go.Operand.tmp 1), type := 26, pos := "exact.go:1135", after := #[], guard := none }) (v := ?v4) rfl (by kernel_rfl) (by kernel_rfl) (by kernel_rfl) (fun _ _ _ h => h) (Or.inl ⟨by rfl, ?h4⟩) hHeld ?r4
        case h4 =>
          intro wS hSw
          (try dsimp only at hSw)
          go_simp
          try with_reducible rfl
        case r4 =>
        simp only [Act.put, List.setIfInBounds_toArray, List.set_cons_zero, List.set_cons_succ]
        refine wpAnyH_take (i := 5) (oi := { dst := some 22, op := Go.Op.move (Go.Operand.tmp 5), type := 3, pos := "exact.go:1135", after := #[], guard := none }) (v := ?v5) rfl (by kernel_rfl) (by kernel_rfl) (by kernel_rfl) (fun _ _ _ h => h) (Or.inl ⟨by rfl, ?h5⟩) hHeld ?r5
        case h5 =>
          intro wS hSw
          (try dsimp only at hSw)
          go_simp
          try with_reducible rfl
        case r5 =>
        simp only [Act.put, List.setIfInBounds_toArray, List.set_cons_zero, List.set_cons_succ]
        refine wpAnyH_take (i := 6) (oi := { dst := some 23, op := Go.Op.indexAddr 26 (Go.Operand.tmp 21) (Go.Operand.tmp 22), type := 0, pos := "exact.go:1135", after := #[{ on := 4, ground := Go.Ground.data }, { on := 5, ground := Go.Ground.data }], guard := none }) (v := ?v6) rfl (by kernel_rfl) (by kernel_rfl) (by kernel_rfl) (fun _ _ _ h => h) (Or.inl ⟨by rfl, ?h6⟩) hHeld ?r6
        case h6 =>
          intro wS hSw
          (try dsimp only at hSw)
          go_simp
          try with_reducible rfl
        case r6 =>
        simp only [Act.put, List.setIfInBounds_toArray, List.set_cons_zero, List.set_cons_succ]
        refine wpAnyH_take (i := 7) (oi := { dst := some 24, op := Go.Op.load 64 (Go.Operand.tmp 23), type := 64, pos := "exact.go:1135", after := #[{ on := 6, ground := Go.Ground.data }], guard := none }) (v := ?v7) rfl (by kernel_rfl) (by kernel_rfl) (by kernel_rfl) (fun _ _ _ h => h) (Or.inl ⟨by rfl, ?h7⟩) hHeld ?r7
        case h7 =>
          intro wS hSw
          have y0z := (hSw.cell (p := ⟨b2, off2 + k * 10, none⟩) hbl2).trans c0z
          have y1z := (hSw.cell (p := ⟨b2, off2 + k * 10 + 1, none⟩) hbl2).trans c1z
          have y2z := (hSw.cell (p := ⟨b2, off2 + k * 10 + 2, none⟩) hbl2).trans c2z
          have y3z := (hSw.cell (p := ⟨b2, off2 + k * 10 + 3, none⟩) hbl2).trans c3z
          have y4z := (hSw.cell (p := ⟨b2, off2 + k * 10 + 4, none⟩) hbl2).trans c4z
          have y5z := (hSw.cell (p := ⟨b2, off2 + k * 10 + 5, none⟩) hbl2).trans c5z
          have y6z := (hSw.cell (p := ⟨b2, off2 + k * 10 + 6, none⟩) hbl2).trans c6z
          have y7z := (hSw.cell (p := ⟨b2, off2 + k * 10 + 7, none⟩) hbl2).trans c7z
          have y8z := (hSw.cell (p := ⟨b2, off2 + k * 10 + 8, none⟩) hbl2).trans c8z
          have y9z := (hSw.cell (p := ⟨b2, off2 + k * 10 + 9, none⟩) hbl2).trans c9z
          clear hSw
          (try dsimp only at hSw)
          go_simp
          try with_reducible rfl
        case r7 =>
        simp only [Act.put, List.setIfInBounds_toArray, List.set_cons_zero, List.set_cons_succ]
        refine wpAnyH_ready (rs := [8]) (by kernel_rfl) (by simp) ?_
        refine AllReadyH.cons (o := { dst := some 25, op := Go.Op.call { callee := Go.Callee.value (Go.Operand.func 35), args := #[Go.Operand.tmp 20, Go.Operand.tmp 24], argTypes := #[64, 64] }, type := 4, pos := "exact.go:1135", after := #[{ on := 3, ground := Go.Ground.data }, { on := 7, ground := Go.Ground.data }], guard := none }) rfl (fun K hK => ?_) AllReadyH.nil
        go_simp
        go_at_call 35
        refine (eq_Msg _ _ x _ ((unhide HR).later hHeld) ((unhide HRZ).later hHeld)).mono ?_
        rintro e w3 ⟨rfl, hbw⟩
        try go_wp2_with fail
        refine hK.out _ _ (hHeld.trans (hbw.mono hHeld.size)) (fun hHeld => ?_)
        clear hK K
        try simp only [Act.put, List.setIfInBounds_toArray, List.set_cons_zero, List.set_cons_succ]
        refine wpAnyH_take (i := 9) (oi := { dst := some 26, op := Go.Op.unOp Go.UnOp.not 4 (Go.Operand.tmp 25), type := 4, pos := "exact.go:1135", after := #[{ on := 8, ground := Go.Ground.data }], guard := none }) (v := ?v9) rfl (by kernel_rfl) (by kernel_rfl) (by kernel_rfl) (fun _ _ _ h => h) (Or.inl ⟨by rfl, ?h9⟩) hHeld ?r9
        case h9 =>
          intro wS hSw
          (try dsimp only at hSw)
          go_simp
          try with_reducible rfl
        case r9 =>
        simp only [Act.put, List.setIfInBounds_toArray, List.set_cons_zero, List.set_cons_succ]
        refine wpAnyH_done (by kernel_rfl) ?_ _
        refine NoPanic.normal ?_
        have HB3 := hide hHeld
        clear hHeld c0 c0z c1 c1z c2 c2z c3 c3z c4 c4z c5 c5z c6 c6z c7 c7z c8 c8z c9 c9z HB
        go_wp2_with fail
        go_roundw
        case rel => exact ⟨k + 1, by omega, by go_num, unhide HB3⟩
        case measure => simp [intOf]; omega
      · have HB := hide hB
        clear hB
        go_wp2_with fail
        go_ret
        exact ⟨rfl, unhide HB⟩
  · obtain rfl : xs = [] := List.eq_nil_of_length_eq_zero (by omega)
    clear h h2 hp
    simp only [List.length_nil] at *
    go_enter Try.func23, Try.ntmps23
    go_wp2_with fail
    refine wp_loop_rounds 1 ?_
    rw [rounds_succ]
    go_wp2_with fail
    go_ret
    exact ⟨rfl, Below.refl _ _⟩

end Go.Proofs.Ythpbdafhjakekaa

namespace Go.Proofs.Ythpbdafhjakekaa
open Go.RowKit

set_option maxRecDepth 10000 in
set_option maxHeartbeats 1000000 in
theorem eq_Hit (cs cs2 : List Value) (x : DHit) (w : World) (h : Lay.tHit.Reads w cs x) (h2 : Lay.tHit.Reads w cs2 x) :
    Calls Try.prog 46 #[.agg cs.toArray, .agg cs2.toArray] w fun e w' => e = .returned (.bool true) ∧ Below w.heap.size w w' := by
  obtain ⟨bl, h⟩ := h
  obtain ⟨rfl, -⟩ := lies_Hit.1 h
  obtain ⟨bl2, h2⟩ := h2
  obtain ⟨rfl, -⟩ := lies_Hit.1 h2
  clear h h2
  have e0 : (x.id != x.id) = false := by simp
  have e1 : (x.score != x.score) = false := by simp
  have HB0 : Below w.heap.size w ((w.alloc (.cells #[.int .i64 x.id, .int .i64 x.score] 76)).alloc (.cells #[.int .i64 x.id, .int .i64 x.score] 76)) := ((Below.refl _ _).alloc (Nat.le_refl _) _).alloc (by simp) _
  go_enter Try.func46, Try.ntmps46
  go_wp2_with fail
  go_ret
  exact ⟨rfl, HB0⟩

end Go.Proofs.Ythpbdafhjakekaa

namespace Go.Proofs.Ythpbdafhjakekaa
open Go.RowKit

set_option maxRecDepth 100000 in
set_option maxHeartbeats 2000000 in
theorem eq_HitS (v v2 : Value) (xs : List DHit) (w : World) (h : (Lay.sl Lay.tHit).Reads w [v] xs) (h2 : (Lay.sl Lay.tHit).Reads w [v2] xs) :
    Calls Try.prog 45 #[v, v2] w fun e w' => e = .returned (.bool true) ∧ Below w.heap.size w w' := by
  have hbig := h.big
  obtain ⟨ao, cap, rfl⟩ := open_sl h
  obtain ⟨ao2, cap2, rfl⟩ := open_sl h2
  by_cases hp : 0 < xs.length
  · obtain ⟨b, off, rfl, hbl⟩ := Lay.sl_addr h hp
    obtain ⟨b2, off2, rfl, hbl2⟩ := Lay.sl_addr h2 hp
    have H := hide h
    have H2 := hide h2
    clear h h2
    go_enter Try.func45, Try.ntmps45
    go_wp2_with fail
    go_loopw [5] (fun i wr => ∃ k : Nat, k ≤ xs.length ∧ i = .int .i64 k ∧ Below w.heap.size w wr) (fun i _ => xs.length - (intOf i).toNat)
    case atStart => exact ⟨0, Nat.zero_le _, rfl, Below.refl _ _⟩
    case round =>
      obtain ⟨k, hk, rfl, hB⟩ := hrel
      by_cases hlt : k < xs.length
      · obtain ⟨row, hc, hr⟩ := Lay.row_at (unhide H) hlt
        obtain ⟨rowz, hcz, hrz⟩ := Lay.row_at (unhide H2) hlt
        have hr2 := hr
        obtain ⟨blo, hlo⟩ := hr2; obtain ⟨rfl, -⟩ := lies_Hit.1 hlo; clear hlo
        have hrz2 := hrz
        obtain ⟨bloz, hloz⟩ := hrz2; obtain ⟨rfl, -⟩ := lies_Hit.1 hloz; clear hloz
        have c0 : w.cell? ⟨b, off + k * 2, none⟩ = some (.int .i64 (xs[k]).id) := ((Below.refl w.heap.size w).cell (p := ⟨b, off + k * 2, none⟩) hbl).trans (hc 0 (by decide))
        have c1 : w.cell? ⟨b, off + k * 2 + 1, none⟩ = some (.int .i64 (xs[k]).score) := ((Below.refl w.heap.size w).cell (p := ⟨b, off + k * 2 + 1, none⟩) hbl).trans (hc 1 (by decide))
        have c0z : w.cell? ⟨b2, off2 + k * 2, none⟩ = some (.int .i64 (xs[k]).id) := ((Below.refl w.heap.size w).cell (p := ⟨b2, off2 + k * 2, none⟩) hbl2).trans (hcz 0 (by decide))
        have c1z : w.cell? ⟨b2, off2 + k * 2 + 1, none⟩ = some (.int .i64 (xs[k]).score) := ((Below.refl w.heap.size w).cell (p := ⟨b2, off2 + k * 2 + 1, none⟩) hbl2).trans (hcz 1 (by decide))
        clear hc hcz
        have HR := hide hr
        have HRZ := hide hrz
        clear hr hrz
        have HB := hide hB
        clear hB
        generalize hxk : xs[k] = x at *
        clear hxk
        have i1 : (0 : Int) ≤ (k : Int) := by omega
        have i2 : (k : Int) < (xs.length : Int) := by omega
        go_wp2_with fail
        refine wp_region_noPanic ?_
        refine wp_region_held_drew (S := fun w' => Below w.heap.size w w') (by kernel_rfl) (unhide HB).drew (fun hHeld => ?_)
        generalize wr.drew = wD at hHeld ⊢
        refine wpAnyH_take (i := 0) (oi := { dst := some 17, op := Go.Op.move (Go.Operand.tmp 0), type := 66, pos := "exact.go:245", after := #[], guard := none }) (v := ?v0) rfl (by kernel_rfl) (by kernel_rfl) (by kernel_rfl) (fun _ _ _ h => h) (Or.inl ⟨by rfl, ?h0⟩) hHeld ?r0
        case h0 =>
          intro wS hSw
          (try dsimp only at hSw)
          go_simp
          try with_reducible rfl
        case r0 =>
        simp only [Act.put, List.setIfInBounds_toArray, List.set_cons_zero, List.set_cons_succ]
        refine wpAnyH_take (i := 1) (oi := { dst := some 18, op := Go.Op.move (Go.Operand.tmp 5), type := 3, pos := "exact.go:245", after := #[], guard := none }) (v := ?v1) rfl (by kernel_rfl) (by kernel_rfl) (by kernel_rfl) (fun _ _ _ h => h) (Or.inl ⟨by rfl, ?h1⟩) hHeld ?r1
        case h1 =>
          intro wS hSw
          (try dsimp only at hSw)
          go_simp
          try with_reducible rfl
        case r1 =>
        simp only [Act.put, List.setIfInBounds_toArray, List.set_cons_zero, List.set_cons_succ]
        refine wpAnyH_take (i := 2) (oi := { dst := some 19, op := Go.Op.indexAddr 66 (Go.Operand.tmp 17) (Go.Operand.tmp 18), type := 0, pos := "exact.go:245", after := #[{ on := 0, ground := Go.Ground.data }, { on := 1, ground := Go.Ground.data }], guard := none }) (v := ?v2) rfl (by kernel_rfl) (by kernel_rfl) (by kernel_rfl) (fun _ _ _ h => h) (Or.inl ⟨by rfl, ?h2⟩) hHeld ?r2
        case h2 =>
          intro wS hSw
          (try dsimp only at hSw)
          go_simp
          try with_reducible rfl
        case r2 =>
        simp only [Act.put, List.setIfInBounds_toArray, List.set_cons_zero, List.set_cons_succ]
        refine wpAnyH_take (i := 3) (oi := { dst := some 20, op := Go.Op.load 76 (Go.Operand.tmp 19), type := 76, pos := "exact.go:245", after := #[{ on := 2, ground := Go.Ground.data }], guard := none }) (v := ?v3) rfl (by kernel_rfl) (by kernel_rfl) (by kernel_rfl) (fun _ _ _ h => h) (Or.inl ⟨by rfl, ?h3⟩) hHeld ?r3
        case h3 =>
          intro wS hSw
          have y0 := (hSw.cell (p := ⟨b, off + k * 2, none⟩) hbl).trans c0
          have y1 := (hSw.cell (p := ⟨b, off + k * 2 + 1, none⟩) hbl).trans c1
          clear hSw
          (try dsimp only at hSw)
          go_simp
          try with_reducible rfl
        case r3 =>
        simp only [Act.put, List.setIfInBounds_toArray, List.set_cons_zero, List.set_cons_succ]
        refine wpAnyH_take (i := 4) (oi := { dst := some 21, op := Go.Op.move (Go.Operand.tmp 1), type := 66, pos := "exact.go:245", after := #[], guard := none }) (v := ?v4) rfl (by kernel_rfl) (by kernel_rfl) (by kernel_rfl) (fun _ _ _ h => h) (Or.inl ⟨by rfl, ?h4⟩) hHeld ?r4
        case h4 =>
          intro wS hSw
          (try dsimp only at hSw)
          go_simp
          try with_reducible rfl
        case r4 =>
        simp only [Act.put, List.setIfInBounds_toArray, List.set_cons_zero, List.set_cons_succ]
        refine wpAnyH_take (i := 5) (oi := { dst := some 22, op := Go.Op.move (Go.Operand.tmp 5), type := 3, pos := "exact.go:245", after := #[], guard := none }) (v := ?v5) rfl (by kernel_rfl) (by kernel_rfl) (by kernel_rfl) (fun _ _ _ h => h) (Or.inl ⟨by rfl, ?h5⟩) hHeld ?r5
        case h5 =>
          intro wS hSw
          (try dsimp only at hSw)
          go_simp
          try with_reducible rfl
        case r5 =>
        simp only [Act.put, List.setIfInBounds_toArray, List.set_cons_zero, List.set_cons_succ]
        refine wpAnyH_take (i := 6) (oi := { dst := some 23, op := Go.Op.indexAddr 66 (Go.Operand.tmp 21) (Go.Operand.tmp 22), type := 0, pos := "exact.go:245", after := #[{ on := 4, ground := Go.Ground.data }, { on := 5, ground := Go.Ground.data }], guard := none }) (v := ?v6) rfl (by kernel_rfl) (by kernel_rfl) (by kernel_rfl) (fun _ _ _ h => h) (Or.inl ⟨by rfl, ?h6⟩) hHeld ?r6
        case h6 =>
          intro wS hSw
          (try dsimp only at hSw)
          go_simp
          try with_reducible rfl
        case r6 =>
        simp only [Act.put, List.setIfInBounds_toArray, List.set_cons_zero, List.set_cons_succ]
        refine wpAnyH_take (i := 7) (oi := { dst := some 24, op := Go.Op.load 76 (Go.Operand.tmp 23), type := 76, pos := "exact.go:245", after := #[{ on := 6, ground := Go.Ground.data }], guard := none }) (v := ?v7) rfl (by kernel_rfl) (by kernel_rfl) (by kernel_rfl) (fun _ _ _ h => h) (Or.inl ⟨by rfl, ?h7⟩) hHeld ?r7
        case h7 =>
          intro wS hSw
          have y0z := (hSw.cell (p := ⟨b2, off2 + k * 2, none⟩) hbl2).trans c0z
          have y1z := (hSw.cell (p := ⟨b2, off2 + k * 2 + 1, none⟩) hbl2).trans c1z
          clear hSw
          (try dsimp only at hSw)
          go_simp
          try with_reducible rfl
        case r7 =>
        simp only [Act.put, List.setIfInBounds_toArray, List.set_cons_zero, List.set_cons_succ]
        refine wpAnyH_ready (rs := [8]) (by kernel_rfl) (by simp) ?_
        refine AllReadyH.cons (o := { dst := some 25, op := Go.Op.call { callee := Go.Callee.value (Go.Operand.func 46), args := #[Go.Operand.tmp 20, Go.Operand.tmp 24], argTypes := #[76, 76] }, type := 4, pos := "exact.go:245", after := #[{ on := 3, ground := Go.Ground.data }, { on := 7, ground := Go.Ground.data }], guard := none }) rfl (fun K hK => ?_) AllReadyH.nil
        go_simp
        go_at_call 46
        refine (eq_Hit _ _ x _ ((unhide HR).later hHeld) ((unhide HRZ).later hHeld)).mono ?_
        rintro e w3 ⟨rfl, hbw⟩
        try go_wp2_with fail
        refine hK.out _ _ (hHeld.trans (hbw.mono hHeld.size)) (fun hHeld => ?_)
        clear hK K
        try simp only [Act.put, List.setIfInBounds_toArray, List.set_cons_zero, List.set_cons_succ]
        refine wpAnyH_take (i := 9) (oi := { dst := some 26, op := Go.Op.unOp Go.UnOp.not 4 (Go.Operand.tmp 25), type := 4, pos := "exact.go:245", after := #[{ on := 8, ground := Go.Ground.data }], guard := none }) (v := ?v9) rfl (by kernel_rfl) (by kernel_rfl) (by kernel_rfl) (fun _ _ _ h => h) (Or.inl ⟨by rfl, ?h9⟩) hHeld ?r9
        case h9 =>
          intro wS hSw
          (try dsimp only at hSw)
          go_simp
          try with_reducible rfl
        case r9 =>
        simp only [Act.put, List.setIfInBounds_toArray, List.set_cons_zero, List.set_cons_succ]
        refine wpAnyH_done (by kernel_rfl) ?_ _
        refine NoPanic.normal ?_
        have HB3 := hide hHeld
        clear hHeld c0 c0z c1 c1z HB
        go_wp2_with fail
        go_roundw
        case rel => exact ⟨k + 1, by omega, by go_num, unhide HB3⟩
        case measure => simp [intOf]; omega
      · have HB := hide hB
        clear hB
        go_wp2_with fail
        go_ret
        exact ⟨rfl, unhide HB⟩
  · obtain rfl : xs = [] := List.eq_nil_of_length_eq_zero (by omega)
    clear h h2 hp
    simp only [List.length_nil] at *
    go_enter Try.func45, Try.ntmps45
    go_wp2_with fail
    refine wp_loop_rounds 1 ?_
    rw [rounds_succ]
    go_wp2_with fail
    go_ret
    exact ⟨rfl, Below.refl _ _⟩

end Go.Proofs.Ythpbdafhjakekaa

namespace Go.Proofs.Ythpbdafhjakekaa
open Go.RowKit

set_option maxRecDepth 10000 in
set_option maxHeartbeats 1000000 in
theorem eq_Entry (cs cs2 : List Value) (x : DEntry) (w : World) (h : Lay.tEntry.Reads w cs x) (h2 : Lay.tEntry.Reads w cs2 x) :
    Calls Try.prog 36 #[.agg cs.toArray, .agg cs2.toArray] w fun e w' => e = .returned (.bool true) ∧ Below w.heap.size w w' := by
  obtain ⟨a4, d4, a9, d9, a10, d10, rfl, R4, R9, R10⟩ := open_Entry h
  obtain ⟨a4z, d4z, a9z, d9z, a10z, d10z, rfl, R4z, R9z, R10z⟩ := open_Entry h2
  clear h h2
  have e0 : (x.kind != x.kind) = false := by simp
  have e1 : (x.session != x.session) = false := by simp
  have e2 : (x.seq != x.seq) = false := by simp
  have e3 : (x.id != x.id) = false := by simp
  have e5 : (x.k != x.k) = false := by simp
  have e6 : (x.start != x.start) = false := by simp
  have e7 : (x.fin != x.fin) = false := by simp
  have e8 : (x.place != x.place) = false := by simp
  have HB0 : Below w.heap.size w ((w.alloc (.cells #[.int .i64 x.kind, .int .i64 x.session, .int .i64 x.seq, .int .i64 x.id, .slice a4 x.query.length d4, .int .i64 x.k, .int .i64 x.start, .int .i64 x.fin, .int .i64 x.place, .slice a9 x.vec.length d9, .slice a10 x.hits.length d10] 68)).alloc (.cells #[.int .i64 x.kind, .int .i64 x.session, .int .i64 x.seq, .int .i64 x.id, .slice a4z x.query.length d4z, .int .i64 x.k, .int .i64 x.start, .int .i64 x.fin, .int .i64 x.place, .slice a9z x.vec.length d9z, .slice a10z x.hits.length d10z] 68)) := ((Below.refl _ _).alloc (Nat.le_refl _) _).alloc (by simp) _
  have bA : Box w.heap.size #[.int .i64 x.kind, .int .i64 x.session, .int .i64 x.seq, .int .i64 x.id, .slice a4 x.query.length d4, .int .i64 x.k, .int .i64 x.start, .int .i64 x.fin, .int .i64 x.place, .slice a9 x.vec.length d9, .slice a10 x.hits.length d10] 68 ((w.alloc (.cells #[.int .i64 x.kind, .int .i64 x.session, .int .i64 x.seq, .int .i64 x.id, .slice a4 x.query.length d4, .int .i64 x.k, .int .i64 x.start, .int .i64 x.fin, .int .i64 x.place, .slice a9 x.vec.length d9, .slice a10 x.hits.length d10] 68)).alloc (.cells #[.int .i64 x.kind, .int .i64 x.session, .int .i64 x.seq, .int .i64 x.id, .slice a4z x.query.length d4z, .int .i64 x.k, .int .i64 x.start, .int .i64 x.fin, .int .i64 x.place, .slice a9z x.vec.length d9z, .slice a10z x.hits.length d10z] 68)) w.heap.size := (newBox (Nat.le_refl _)).grow _
  have bC : Box w.heap.size #[.int .i64 x.kind, .int .i64 x.session, .int .i64 x.seq, .int .i64 x.id, .slice a4z x.query.length d4z, .int .i64 x.k, .int .i64 x.start, .int .i64 x.fin, .int .i64 x.place, .slice a9z x.vec.length d9z, .slice a10z x.hits.length d10z] 68 ((w.alloc (.cells #[.int .i64 x.kind, .int .i64 x.session, .int .i64 x.seq, .int .i64 x.id, .slice a4 x.query.length d4, .int .i64 x.k, .int .i64 x.start, .int .i64 x.fin, .int .i64 x.place, .slice a9 x.vec.length d9, .slice a10 x.hits.length d10] 68)).alloc (.cells #[.int .i64 x.kind, .int .i64 x.session, .int .i64 x.seq, .int .i64 x.id, .slice a4z x.query.length d4z, .int .i64 x.k, .int .i64 x.start, .int .i64 x.fin, .int .i64 x.place, .slice a9z x.vec.length d9z, .slice a10z x.hits.length d10z] 68)) (w.heap.size + 1) := newBoxAt (by omega) (by simp)
  go_enter Try.func36, Try.ntmps36
  go_wp2_with fail
  generalize (w.alloc (.cells #[.int .i64 x.kind, .int .i64 x.session, .int .i64 x.seq, .int .i64 x.id, .slice a4 x.query.length d4, .int .i64 x.k, .int .i64 x.start, .int .i64 x.fin, .int .i64 x.place, .slice a9 x.vec.length d9, .slice a10 x.hits.length d10] 68)).alloc (.cells #[.int .i64 x.kind, .int .i64 x.session, .int .i64 x.seq, .int .i64 x.id, .slice a4z x.query.length d4z, .int .i64 x.k, .int .i64 x.start, .int .i64 x.fin, .int .i64 x.place, .slice a9z x.vec.length d9z, .slice a10z x.hits.length d10z] 68) = W0 at *
  replace R4 := R4.later HB0
  replace R4z := R4z.later HB0
  replace R9 := R9.later HB0
  replace R9z := R9z.later HB0
  replace R10 := R10.later HB0
  replace R10z := R10z.later HB0
  refine (eq_Int64S _ _ x.query _ R4 R4z).mono ?_
  rintro e w1 ⟨rfl, hb⟩
  replace bA := bA.keep hb
  replace bC := bC.keep hb
  replace HB0 := HB0.trans (hb.mono HB0.size)
  replace R9 := R9.later hb
  replace R9z := R9z.later hb
  replace R10 := R10.later hb
  replace R10z := R10z.later hb
  have p5 := bA.at 5 _ rfl
  have q5 := bC.at 5 _ rfl
  have p6 := bA.at 6 _ rfl
  have q6 := bC.at 6 _ rfl
  have p7 := bA.at 7 _ rfl
  have q7 := bC.at 7 _ rfl
  have p8 := bA.at 8 _ rfl
  have q8 := bC.at 8 _ rfl
  have p9 := bA.at 9 _ rfl
  have q9 := bC.at 9 _ rfl
  have p10 := bA.at 10 _ rfl
  have q10 := bC.at 10 _ rfl
  clear hb
  have HB := hide HB0
  have HA := hide bA
  have HC := hide bC
  clear HB0 bA bC
  have S9 := hide R9
  have S9z := hide R9z
  clear R9 R9z
  have S10 := hide R10
  have S10z := hide R10z
  clear R10 R10z
  go_wp2_with fail
  have HB0 := unhide HB
  have bA := unhide HA
  have bC := unhide HC
  clear HB HA HC
  clear p5 q5
  clear p6 q6
  clear p7 q7
  clear p8 q8
  clear p9 q9
  clear p10 q10
  have R9 := unhide S9
  have R9z := unhide S9z
  clear S9 S9z
  have R10 := unhide S10
  have R10z := unhide S10z
  clear S10 S10z
  refine (eq_Int64S _ _ x.vec _ R9 R9z).mono ?_
  rintro e w2 ⟨rfl, hb⟩
  replace bA := bA.keep hb
  replace bC := bC.keep hb
  replace HB0 := HB0.trans (hb.mono HB0.size)
  replace R10 := R10.later hb
  replace R10z := R10z.later hb
  have p10 := bA.at 10 _ rfl
  have q10 := bC.at 10 _ rfl
  clear hb
  have HB := hide HB0
  have HA := hide bA
  have HC := hide bC
  clear HB0 bA bC
  have S10 := hide R10
  have S10z := hide R10z
  clear R10 R10z
  go_wp2_with fail
  have HB0 := unhide HB
  have bA := unhide HA
  have bC := unhide HC
  clear HB HA HC
  clear p10 q10
  have R10 := unhide S10
  have R10z := unhide S10z
  clear S10 S10z
  refine (eq_HitS _ _ x.hits _ R10 R10z).mono ?_
  rintro e w3 ⟨rfl, hb⟩
  replace bA := bA.keep hb
  replace bC := bC.keep hb
  replace HB0 := HB0.trans (hb.mono HB0.size)
  clear hb
  have HB := hide HB0
  have HA := hide bA
  have HC := hide bC
  clear HB0 bA bC
  go_wp2_with fail
  go_ret
  exact ⟨rfl, unhide HB⟩

end Go.Proofs.Ythpbdafhjakekaa
