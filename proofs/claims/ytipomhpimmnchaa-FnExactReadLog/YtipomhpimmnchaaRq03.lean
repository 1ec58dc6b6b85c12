/-
  Texts of this proof in one: EqWriteS, EqWritesResult, OwnWritesResult, MaWriteS, MaWritesResult, MkWriteS, MkWritesResult, LawXReadLog, AppInt, AppWrite.
  Their conditions stand in their theorems.
-/
import Derived.Test.YtipomhpimmnchaaChecked
import Derived.Test.YtipomhpimmnchaaRq01
import Derived.Test.YtipomhpimmnchaaRq02
import Derived.Deep.RegionHeld3
import Derived.Deep.AppendLies

namespace Go.Proofs.Ytipomhpimmnchaa
open Go.RowKit

set_option maxRecDepth 100000 in
set_option maxHeartbeats 2000000 in
theorem eq_WriteS (v v2 : Value) (xs : List DWrite) (w : World) (h : (Lay.sl Lay.tWrite).Reads w [v] xs) (h2 : (Lay.sl Lay.tWrite).Reads w [v2] xs) :
    Calls Try.prog 16 #[v, v2] w fun e w' => e = .returned (.bool true) ∧ Below w.heap.size w w' := by
  have hbig := h.big
  obtain ⟨ao, cap, rfl⟩ := open_sl h
  obtain ⟨ao2, cap2, rfl⟩ := open_sl h2
  by_cases hp : 0 < xs.length
  · obtain ⟨b, off, rfl, hbl⟩ := Lay.sl_addr h hp
    obtain ⟨b2, off2, rfl, hbl2⟩ := Lay.sl_addr h2 hp
    have H := hide h
    have H2 := hide h2
    clear h h2
    go_enter Try.func16, Try.ntmps16
    go_wp2_with fail
    go_loopw [5] (fun i wr => ∃ k : Nat, k ≤ xs.length ∧ i = .int .i64 k ∧ Below w.heap.size w wr) (fun i _ => xs.length - (intOf i).toNat)
    case atStart => exact ⟨0, Nat.zero_le _, rfl, Below.refl _ _⟩
    case round =>
      obtain ⟨k, hk, rfl, hB⟩ := hrel
      by_cases hlt : k < xs.length
      · obtain ⟨row, hc, hr⟩ := Lay.row_at (unhide H) hlt
        obtain ⟨rowz, hcz, hrz⟩ := Lay.row_at (unhide H2) hlt
        have hr2 := hr
        obtain ⟨a2, d2, rfl, -⟩ := open_Write hr2
        have hrz2 := hrz
        obtain ⟨a2z, d2z, rfl, -⟩ := open_Write hrz2
        have c0 : w.cell? ⟨b, off + k * 5, none⟩ = some (.int .i64 (xs[k]).kind) := ((Below.refl w.heap.size w).cell (p := ⟨b, off + k * 5, none⟩) hbl).trans (hc 0 (by decide))
        have c1 : w.cell? ⟨b, off + k * 5 + 1, none⟩ = some (.int .i64 (xs[k]).id) := ((Below.refl w.heap.size w).cell (p := ⟨b, off + k * 5 + 1, none⟩) hbl).trans (hc 1 (by decide))
        have c2 : w.cell? ⟨b, off + k * 5 + 2, none⟩ = some (.slice a2 (xs[k]).vec.length d2) := ((Below.refl w.heap.size w).cell (p := ⟨b, off + k * 5 + 2, none⟩) hbl).trans (hc 2 (by decide))
        have c3 : w.cell? ⟨b, off + k * 5 + 3, none⟩ = some (.int .i64 (xs[k]).session) := ((Below.refl w.heap.size w).cell (p := ⟨b, off + k * 5 + 3, none⟩) hbl).trans (hc 3 (by decide))
        have c4 : w.cell? ⟨b, off + k * 5 + 4, none⟩ = some (.int .i64 (xs[k]).seq) := ((Below.refl w.heap.size w).cell (p := ⟨b, off + k * 5 + 4, none⟩) hbl).trans (hc 4 (by decide))
        have c0z : w.cell? ⟨b2, off2 + k * 5, none⟩ = some (.int .i64 (xs[k]).kind) := ((Below.refl w.heap.size w).cell (p := ⟨b2, off2 + k * 5, none⟩) hbl2).trans (hcz 0 (by decide))
        have c1z : w.cell? ⟨b2, off2 + k * 5 + 1, none⟩ = some (.int .i64 (xs[k]).id) := ((Below.refl w.heap.size w).cell (p := ⟨b2, off2 + k * 5 + 1, none⟩) hbl2).trans (hcz 1 (by decide))
        have c2z : w.cell? ⟨b2, off2 + k * 5 + 2, none⟩ = some (.slice a2z (xs[k]).vec.length d2z) := ((Below.refl w.heap.size w).cell (p := ⟨b2, off2 + k * 5 + 2, none⟩) hbl2).trans (hcz 2 (by decide))
        have c3z : w.cell? ⟨b2, off2 + k * 5 + 3, none⟩ = some (.int .i64 (xs[k]).session) := ((Below.refl w.heap.size w).cell (p := ⟨b2, off2 + k * 5 + 3, none⟩) hbl2).trans (hcz 3 (by decide))
        have c4z : w.cell? ⟨b2, off2 + k * 5 + 4, none⟩ = some (.int .i64 (xs[k]).seq) := ((Below.refl w.heap.size w).cell (p := ⟨b2, off2 + k * 5 + 4, none⟩) hbl2).trans (hcz 4 (by decide))
        clear hc hcz
        have HR := hide hr
        have HRZ := hide hrz
        clear hr hrz
        have HB := hide hB
        clear hB
        generalize hxk : xs[k] = x at *
        clear hxk
        have i1 : (0 : Int) ≤ (k : Int) := by omega
        have i2 : (k : Int) < (xs.length : Int) := by omega
        go_wp2_with fail
        refine wp_region_noPanic ?_
        refine wp_region_held_drew (S := fun w' => Below w.heap.size w w') (by kernel_rfl) (unhide HB).drew (fun hHeld => ?_)
        generalize wr.drew = wD at hHeld ⊢
        refine wpAnyH_take (i := 0) (oi := { dst := some 17, op := Go.Op.move (Go.Operand.tmp 0), type := 28, pos := "exact.go:407", after := #[], guard := none }) (v := ?v0) rfl (by kernel_rfl) (by kernel_rfl) (by kernel_rfl) (fun _ _ _ h => h) (Or.inl ⟨by rfl, ?h0⟩) hHeld ?r0
        case h0 =>
          intro wS hSw
          (try dsimp only at hSw)
          go_simp
          try with_reducible rfl
        case r0 =>
        simp only [Act.put, List.setIfInBounds_toArray, List.set_cons_zero, List.set_cons_succ]
        refine wpAnyH_take (i := 1) (oi := { dst := some 18, op := Go.Op.move (Go.Operand.tmp 5), type := 3, pos := "exact.go:407", after := #[], guard := none }) (v := ?v1) rfl (by kernel_rfl) (by kernel_rfl) (by kernel_rfl) (fun _ _ _ h => h) (Or.inl ⟨by rfl, ?h1⟩) hHeld ?r1
        case h1 =>
          intro wS hSw
          (try dsimp only at hSw)
          go_simp
          try with_reducible rfl
        case r1 =>
        simp only [Act.put, List.setIfInBounds_toArray, List.set_cons_zero, List.set_cons_succ]
        refine wpAnyH_take (i := 2) (oi := { dst := some 19, op := Go.Op.indexAddr 28 (Go.Operand.tmp 17) (Go.Operand.tmp 18), type := 0, pos := "exact.go:407", after := #[{ on := 0, ground := Go.Ground.data }, { on := 1, ground := Go.Ground.data }], guard := none }) (v := ?v2) rfl (by kernel_rfl) (by kernel_rfl) (by kernel_rfl) (fun _ _ _ h => h) (Or.inl ⟨by rfl, ?h2⟩) hHeld ?r2
        case h2 =>
          intro wS hSw
          (try dsimp only at hSw)
          go_simp
          try with_reducible rfl
        case r2 =>
        simp only [Act.put, List.setIfInBounds_toArray, List.set_cons_zero, List.set_cons_succ]
        refine wpAnyH_take (i := 3) (oi := { dst := some 20, op := Go.Op.load 58 (Go.Operand.tmp 19), type := 58, pos := "exact.go:407", after := #[{ on := 2, ground := Go.Ground.data }], guard := none }) (v := ?v3) rfl (by kernel_rfl) (by kernel_rfl) (by kernel_rfl) (fun _ _ _ h => h) (Or.inl ⟨by rfl, ?h3⟩) hHeld ?r3
        case h3 =>
          intro wS hSw
          have y0 := (hSw.cell (p := ⟨b, off + k * 5, none⟩) hbl).trans c0
          have y1 := (hSw.cell (p := ⟨b, off + k * 5 + 1, none⟩) hbl).trans c1
          have y2 := (hSw.cell (p := ⟨b, off + k * 5 + 2, none⟩) hbl).trans c2
          have y3 := (hSw.cell (p := ⟨b, off + k * 5 + 3, none⟩) hbl).trans c3
          have y4 := (hSw.cell (p := ⟨b, off + k * 5 + 4, none⟩) hbl).trans c4
          clear hSw
          (try dsimp only at hSw)
          go_simp
          try with_reducible rfl
        case r3 =>
        simp only [Act.put, List.setIfInBounds_toArray, List.set_cons_zero, List.set_cons_succ]
        refine wpAnyH_take (i := 4) (oi := { dst := some 21, op := Go.Op.move (Go.Operand.tmp 1), type := 28, pos := "exact.go:407", after := #[], guard := none }) (v := ?v4) rfl (by kernel_rfl) (by kernel_rfl) (by kernel_rfl) (fun _ _ _ h => h) (Or.inl ⟨by rfl, ?h4⟩) hHeld ?r4
        case h4 =>
          intro wS hSw
          (try dsimp only at hSw)
          go_simp
          try with_reducible rfl
        case r4 =>
        simp only [Act.put, List.setIfInBounds_toArray, List.set_cons_zero, List.set_cons_succ]
        refine wpAnyH_take (i := 5) (oi := { dst := some 22, op := Go.Op.move (Go.Operand.tmp 5), type := 3, pos := "exact.go:407", after := #[], guard := none }) (v := ?v5) rfl (by kernel_rfl) (by kernel_rfl) (by kernel_rfl) (fun _ _ _ h => h) (Or.inl ⟨by rfl, ?h5⟩) hHeld ?r5
        case h5 =>
          intro wS hSw
          (try dsimp only at hSw)
          go_simp
          try with_reducible rfl
        case r5 =>
        simp only [Act.put, List.setIfInBounds_toArray, List.set_cons_zero, List.set_cons_succ]
        refine wpAnyH_take (i := 6) (oi := { dst := some 23, op := Go.Op.indexAddr 28 (Go.Operand.tmp 21) (Go.Operand.tmp 22), type := 0, pos := "exact.go:407", after := #[{ on := 4, ground := Go.Ground.data }, { on := 5, ground := Go.Ground.data }], guard := none }) (v := ?v6) rfl (by kernel_rfl) (by kernel_rfl) (by kernel_rfl) (fun _ _ _ h => h) (Or.inl ⟨by rfl, ?h6⟩) hHeld ?r6
        case h6 =>
          intro wS hSw
          (try dsimp only at hSw)
          go_simp
          try with_reducible rfl
        case r6 =>
        simp only [Act.put, List.setIfInBounds_toArray, List.set_cons_zero, List.set_cons_succ]
        refine wpAnyH_take (i := 7) (oi := { dst := some 24, op := Go.Op.load 58 (Go.Operand.tmp 23), type := 58, pos := "exact.go:407", after := #[{ on := 6, ground := Go.Ground.data }], guard := none }) (v := ?v7) rfl (by kernel_rfl) (by kernel_rfl) (by kernel_rfl) (fun _ _ _ h => h) (Or.inl ⟨by rfl, ?h7⟩) hHeld ?r7
        case h7 =>
          intro wS hSw
          have y0z := (hSw.cell (p := ⟨b2, off2 + k * 5, none⟩) hbl2).trans c0z
          have y1z := (hSw.cell (p := ⟨b2, off2 + k * 5 + 1, none⟩) hbl2).trans c1z
          have y2z := (hSw.cell (p := ⟨b2, off2 + k * 5 + 2, none⟩) hbl2).trans c2z
          have y3z := (hSw.cell (p := ⟨b2, off2 + k * 5 + 3, none⟩) hbl2).trans c3z
          have y4z := (hSw.cell (p := ⟨b2, off2 + k * 5 + 4, none⟩) hbl2).trans c4z
          clear hSw
          (try dsimp only at hSw)
          go_simp
          try with_reducible rfl
        case r7 =>
        simp only [Act.put, List.setIfInBounds_toArray, List.set_cons_zero, List.set_cons_succ]
        refine wpAnyH_ready (rs := [8]) (by kernel_rfl) (by simp) ?_
        refine AllReadyH.cons (o := { dst := some 25, op := Go.Op.call { callee := Go.Callee.value (Go.Operand.func 38), args := #[Go.Operand.tmp 20, Go.Operand.tmp 24], argTypes := #[58, 58] }, type := 4, pos := "exact.go:407", after := #[{ on := 3, ground := Go.Ground.data }, { on := 7, ground := Go.Ground.data }], guard := none }) rfl (fun K hK => ?_) AllReadyH.nil
        go_simp
        go_at_call 38
        refine (eq_Write _ _ x _ ((unhide HR).later hHeld) ((unhide HRZ).later hHeld)).mono ?_
        rintro e w3 ⟨rfl, hbw⟩
        try go_wp2_with fail
        refine hK.out _ _ (hHeld.trans (hbw.mono hHeld.size)) (fun hHeld => ?_)
        clear hK K
        try simp only [Act.put, List.setIfInBounds_toArray, List.set_cons_zero, List.set_cons_succ]
        refine wpAnyH_take (i := 9) (oi := { dst := some 26, op := Go.Op.unOp Go.UnOp.not 4 (Go.Operand.tmp 25), type := 4, pos := "exact.go:407", after := #[{ on := 8, ground := Go.Ground.data }], guard := none }) (v := ?v9) rfl (by kernel_rfl) (by kernel_rfl) (by kernel_rfl) (fun _ _ _ h => h) (Or.inl ⟨by rfl, ?h9⟩) hHeld ?r9
        case h9 =>
          intro wS hSw
          (try dsimp only at hSw)
          go_simp
          try with_reducible rfl
        case r9 =>
        simp only [Act.put, List.setIfInBounds_toArray, List.set_cons_zero, List.set_cons_succ]
        refine wpAnyH_done (by kernel_rfl) ?_ _
        refine NoPanic.normal ?_
        have HB3 := hide hHeld
        clear hHeld c0 c0z c1 c1z c2 c2z c3 c3z c4 c4z HB
        go_wp2_with fail
        go_roundw
        case rel => exact ⟨k + 1, by omega, by go_num, unhide HB3⟩
        case measure => simp [intOf]; omega
      · have HB := hide hB
        clear hB
        go_wp2_with fail
        go_ret
        exact ⟨rfl, unhide HB⟩
  · obtain rfl : xs = [] := List.eq_nil_of_length_eq_zero (by omega)
    clear h h2 hp
    simp only [List.length_nil] at *
    go_enter Try.func16, Try.ntmps16
    go_wp2_with fail
    refine wp_loop_rounds 1 ?_
    rw [rounds_succ]
    go_wp2_with fail
    go_ret
    exact ⟨rfl, Below.refl _ _⟩

end Go.Proofs.Ytipomhpimmnchaa

namespace Go.Proofs.Ytipomhpimmnchaa
open Go.RowKit

set_option maxRecDepth 10000 in
set_option maxHeartbeats 1000000 in
theorem eq_WritesResult (cs cs2 : List Value) (x : DWritesResult) (w : World) (h : Lay.tWritesResult.Reads w cs x) (h2 : Lay.tWritesResult.Reads w cs2 x) :
    Calls Try.prog 23 #[.agg cs.toArray, .agg cs2.toArray] w fun e w' => e = .returned (.bool true) ∧ Below w.heap.size w w' := by
  obtain ⟨a1, d1, rfl, R1⟩ := open_WritesResult h
  obtain ⟨a1z, d1z, rfl, R1z⟩ := open_WritesResult h2
  clear h h2
  have e0 : (x.code != x.code) = false := by simp
  have HB0 : Below w.heap.size w ((w.alloc (.cells #[.int .i64 x.code, .slice a1 x.writes.length d1] 36)).alloc (.cells #[.int .i64 x.code, .slice a1z x.writes.length d1z] 36)) := ((Below.refl _ _).alloc (Nat.le_refl _) _).alloc (by simp) _
  have bA : Box w.heap.size #[.int .i64 x.code, .slice a1 x.writes.length d1] 36 ((w.alloc (.cells #[.int .i64 x.code, .slice a1 x.writes.length d1] 36)).alloc (.cells #[.int .i64 x.code, .slice a1z x.writes.length d1z] 36)) w.heap.size := (newBox (Nat.le_refl _)).grow _
  have bC : Box w.heap.size #[.int .i64 x.code, .slice a1z x.writes.length d1z] 36 ((w.alloc (.cells #[.int .i64 x.code, .slice a1 x.writes.length d1] 36)).alloc (.cells #[.int .i64 x.code, .slice a1z x.writes.length d1z] 36)) (w.heap.size + 1) := newBoxAt (by omega) (by simp)
  go_enter Try.func23, Try.ntmps23
  go_wp2_with fail
  generalize (w.alloc (.cells #[.int .i64 x.code, .slice a1 x.writes.length d1] 36)).alloc (.cells #[.int .i64 x.code, .slice a1z x.writes.length d1z] 36) = W0 at *
  replace R1 := R1.later HB0
  replace R1z := R1z.later HB0
  refine (eq_WriteS _ _ x.writes _ R1 R1z).mono ?_
  rintro e w1 ⟨rfl, hb⟩
  replace bA := bA.keep hb
  replace bC := bC.keep hb
  replace HB0 := HB0.trans (hb.mono HB0.size)
  clear hb
  have HB := hide HB0
  have HA := hide bA
  have HC := hide bC
  clear HB0 bA bC
  go_wp2_with fail
  go_ret
  exact ⟨rfl, unhide HB⟩

end Go.Proofs.Ytipomhpimmnchaa

namespace Go.Proofs.Ytipomhpimmnchaa
open Go.RowKit

theorem vcnt_WritesResult (x : DWritesResult) : Lay.tWritesResult.vcnt x = (Lay.sl Lay.tWrite).vcnt x.writes := by
  show 0 + ((Lay.sl Lay.tWrite).vcnt x.writes) = (Lay.sl Lay.tWrite).vcnt x.writes
  omega
theorem mkv_WritesResult (k : Int) (x : DWritesResult) : Lay.tWritesResult.mkv k x = ⟨x.code, (Lay.sl Lay.tWrite).mkv (k) x.writes⟩ := by
  simp [Lay.tWritesResult, Lay.via, Lay.pair, Lay.int]
theorem own_WritesResult {w : World} {cs : List Value} {x : DWritesResult} {bl : List Nat} (h : Lay.tWritesResult.Own w cs x bl) : ∃ (a1 : Option Addr) (d1 : Nat) (g1 : List Nat), cs = [.int .i64 x.code, .slice a1 x.writes.length d1] ∧ bl = g1 ∧ (Lay.sl Lay.tWrite).Own w [.slice a1 x.writes.length d1] x.writes g1 ∧ (Lit.int .i64 x.code).wf = true := by
  obtain ⟨hl, hn, hf⟩ := h
  obtain ⟨a1, d1, b1, rfl, hbl, w0, l1⟩ := lies_WritesResult.1 hl
  rw [hbl] at hn hf
  exact ⟨a1, d1, b1, rfl, hbl, ⟨l1, hn, hf⟩, w0⟩
theorem mkOwn_WritesResult {w : World} {x : DWritesResult} {c1 : List Value} {g1 : List Nat} (O1 : (Lay.sl Lay.tWrite).Own w c1 x.writes g1) (v0 : (Lit.int .i64 x.code).wf = true) (hn : (g1).Nodup) : Lay.tWritesResult.Own w ([.int .i64 x.code] ++ c1) x (g1) := by
  refine ⟨⟨[.int .i64 x.code], c1, [], g1, rfl, by simp, ⟨rfl, v0, rfl⟩, O1.1⟩, hn, ?_⟩
  intro b hb o
  exact O1.2.2 b hb o

end Go.Proofs.Ytipomhpimmnchaa

namespace Go.Proofs.Ytipomhpimmnchaa
open Go.RowKit

theorem cnt_Write (x : DWrite) : Lay.tWrite.cnt x = 4 + (Lay.sl Lay.int).vcnt x.vec := by
  show 1 + (1 + ((Lay.sl Lay.int).vcnt x.vec + (1 + (1)))) = 4 + (Lay.sl Lay.int).vcnt x.vec
  omega
theorem mkd_Write (k : Int) (x : DWrite) : Lay.tWrite.mkd k x = ⟨k, k + 1, (Lay.sl Lay.int).mkv (k + 1 + 1) x.vec, k + 1 + 1 + ((Lay.sl Lay.int).vcnt x.vec : Nat), k + 1 + 1 + ((Lay.sl Lay.int).vcnt x.vec : Nat) + 1⟩ := rfl
theorem vcnt_WriteS (xs : List DWrite) : (Lay.sl Lay.tWrite).vcnt xs = cntAll Lay.tWrite.cnt xs := rfl
theorem mkv_WriteS (k : Int) (xs : List DWrite) : (Lay.sl Lay.tWrite).mkv k xs = mkAll Lay.tWrite.cnt Lay.tWrite.mkd k xs := rfl

set_option maxRecDepth 10000 in
set_option maxHeartbeats 2000000 in
theorem markWrite_pos (b off cap : Nat) (xs : List DWrite) (bl : List Nat) (k : Int) (w : World) (h : (Lay.sl Lay.tWrite).Own w [.slice (some ⟨b, off, none⟩) xs.length cap] xs bl) (hk : 0 ≤ k) (hk2 : k + (cntAll Lay.tWrite.cnt xs : Nat) ≤ 1000000000) :
    Calls Try.prog 17 #[.slice (some ⟨b, off, none⟩) xs.length cap, .int .i64 k] w fun e w' => e = .returned (.int .i64 (k + (cntAll Lay.tWrite.cnt xs : Nat))) ∧ (Lay.sl Lay.tWrite).Own w' [.slice (some ⟨b, off, none⟩) xs.length cap] (mkAll Lay.tWrite.cnt Lay.tWrite.mkd k xs) bl ∧ Ext (fun q => q ∈ bl) w w' := by
  have hbig := h.reads.big
  have H := hide h
  clear h
  go_enter Try.func17, Try.ntmps17
  go_wp2_with fail
  go_loopw [1, 5] (fun kk i wr => ∃ (j : Nat) (kj : Int), j ≤ xs.length ∧ i = .int .i64 j ∧ kj = k + (cntAll Lay.tWrite.cnt (xs.take j) : Nat) ∧ kk = .int .i64 kj ∧ (Lay.sl Lay.tWrite).Own wr [.slice (some ⟨b, off, none⟩) xs.length cap] (mkPre Lay.tWrite.cnt Lay.tWrite.mkd k xs j) bl ∧ Ext (fun q => q ∈ bl) w wr) (fun _ i _ => xs.length - (intOf i).toNat)
  case atStart => exact ⟨0, k, Nat.zero_le _, rfl, by simp [cntAll], rfl, by rw [mkPre_zero]; exact unhide H, Ext.refl _ _⟩
  case round =>
    obtain ⟨j, kj, hj, rfl, hkj, rfl, hO, hX⟩ := hrel
    clear H
    by_cases hlt : j < xs.length
    · have hj2 : j < (mkPre Lay.tWrite.cnt Lay.tWrite.mkd k xs j).length := by rw [mkPre_len _ _ _ _ _ hj]; exact hlt
      obtain ⟨row, blk, R, O, hbk, hin, hfin⟩ := Lay.own_upd hO hj2
      rw [mkPre_get _ _ _ _ _ hlt] at O
      have HT := hide (Lay.cntAll_take (f := Lay.tWrite.cnt) hlt)
      have hle := Lay.cntAll_take_le (f := Lay.tWrite.cnt) (xs := xs) (k := j + 1)
      rw [unhide HT] at hle
      have HM : Hid (∀ y, y = Lay.tWrite.mkd kj xs[j] → (mkPre Lay.tWrite.cnt Lay.tWrite.mkd k xs j).set j y = mkPre Lay.tWrite.cnt Lay.tWrite.mkd k xs (j + 1)) := fun y e => by rw [e, hkj]; exact mkPre_set _ _ _ _ _ hlt
      have HF := hide hfin
      have HX := hide hX
      have HI := hide hin
      clear hO hfin hX hin hj2
      generalize hx : xs[j] = x at *
      clear hx
      have hcn := cnt_Write x
      have HD := hide (mkd_Write kj x)
      have hb1 : 0 ≤ kj := by omega
      have hb2 : kj + (Lay.tWrite.cnt x : Int) ≤ 1000000000 := by omega
      have HK := hide hkj
      clear hkj hle
      have hnd := O.2.1
      obtain ⟨a2, d2, g2, rfl, hbl, O2, v0, v1, v3, v4⟩ := own_Write O
      clear O
      subst hbl
      have HN := hide hnd
      clear hnd
      have l1 : b < wr.heap.size := R.lt
      have c0 : wr.cell? ⟨b, off + j * 5, none⟩ = some (.int .i64 x.kind) := R.at 0 _ rfl
      have f0 : wr.frozen? ⟨b, off + j * 5, none⟩ = false := R.soft _
      have c1 : wr.cell? ⟨b, off + j * 5 + 1, none⟩ = some (.int .i64 x.id) := R.at 1 _ rfl
      have f1 : wr.frozen? ⟨b, off + j * 5 + 1, none⟩ = false := R.soft _
      have c2 : wr.cell? ⟨b, off + j * 5 + 2, none⟩ = some (.slice a2 x.vec.length d2) := R.at 2 _ rfl
      have R0_ : RowAt wr ((wr.setCell ⟨b, off + j * 5, none⟩ (.int .i64 kj)).setCell ⟨b, off + j * 5 + 1, none⟩ (.int .i64 (kj + 1))) b (off + j * 5) 5 [.int .i64 kj, .int .i64 (kj + 1), .slice a2 x.vec.length d2, .int .i64 x.session, .int .i64 x.seq] blk := ((R.set 0 (.int .i64 kj) (by decide)).set 1 (.int .i64 (kj + 1)) (by decide))
      have E0_ : Ext (fun q => q = b) wr ((wr.setCell ⟨b, off + j * 5, none⟩ (.int .i64 kj)).setCell ⟨b, off + j * 5 + 1, none⟩ (.int .i64 (kj + 1))) := (((Ext.refl (fun q => q = b) _).setCell ⟨b, off + j * 5, none⟩ (.int .i64 kj) rfl).setCell ⟨b, off + j * 5 + 1, none⟩ (.int .i64 (kj + 1)) rfl)
      have O2_ := O2.ext E0_ (fun c hc e => hbk (e ▸ hc))
      clear O2
      have O2 := O2_
      clear O2_
      clear R E0_
      have R := R0_
      clear R0_
      have HR := hide R
      clear R
      go_wp2_with fail
      refine (mark_Int64S _ x.vec blk (kj + 1 + 1) _ O2 (by omega) (by omega)).mono ?_
      rintro e w2 ⟨rfl, Q2, E2⟩
      have R := (unhide HR).call E2 (fun _ h => h) hbk
      clear E2 O2 HR c0 c1 c2 f0 f1
      clear l1
      have l1 : b < w2.heap.size := R.lt
      have c3 : w2.cell? ⟨b, off + j * 5 + 3, none⟩ = some (.int .i64 x.session) := R.at 3 _ rfl
      have f3 : w2.frozen? ⟨b, off + j * 5 + 3, none⟩ = false := R.soft _
      have c4 : w2.cell? ⟨b, off + j * 5 + 4, none⟩ = some (.int .i64 x.seq) := R.at 4 _ rfl
      have f4 : w2.frozen? ⟨b, off + j * 5 + 4, none⟩ = false := R.soft _
      have R1_ : RowAt wr ((w2.setCell ⟨b, off + j * 5 + 3, none⟩ (.int .i64 (kj + 1 + 1 + ((Lay.sl Lay.int).vcnt x.vec : Nat)))).setCell ⟨b, off + j * 5 + 4, none⟩ (.int .i64 (kj + 1 + 1 + ((Lay.sl Lay.int).vcnt x.vec : Nat) + 1))) b (off + j * 5) 5 [.int .i64 kj, .int .i64 (kj + 1), .slice a2 x.vec.length d2, .int .i64 (kj + 1 + 1 + ((Lay.sl Lay.int).vcnt x.vec : Nat)), .int .i64 (kj + 1 + 1 + ((Lay.sl Lay.int).vcnt x.vec : Nat) + 1)] blk := ((R.set 3 (.int .i64 (kj + 1 + 1 + ((Lay.sl Lay.int).vcnt x.vec : Nat))) (by decide)).set 4 (.int .i64 (kj + 1 + 1 + ((Lay.sl Lay.int).vcnt x.vec : Nat) + 1)) (by decide))
      have E1_ : Ext (fun q => q = b) w2 ((w2.setCell ⟨b, off + j * 5 + 3, none⟩ (.int .i64 (kj + 1 + 1 + ((Lay.sl Lay.int).vcnt x.vec : Nat)))).setCell ⟨b, off + j * 5 + 4, none⟩ (.int .i64 (kj + 1 + 1 + ((Lay.sl Lay.int).vcnt x.vec : Nat) + 1))) := (((Ext.refl (fun q => q = b) _).setCell ⟨b, off + j * 5 + 3, none⟩ (.int .i64 (kj + 1 + 1 + ((Lay.sl Lay.int).vcnt x.vec : Nat))) rfl).setCell ⟨b, off + j * 5 + 4, none⟩ (.int .i64 (kj + 1 + 1 + ((Lay.sl Lay.int).vcnt x.vec : Nat) + 1)) rfl)
      have Q2_ := Q2.ext E1_ (fun c hc e => hbk (e ▸ hc))
      clear Q2
      have Q2 := hide Q2_
      clear Q2_
      clear R E1_
      have R := R1_
      clear R1_
      have HR := hide R
      clear R
      have HQ := hide (unhide Q2)
      clear Q2
      go_wp2_with fail
      go_roundw
      case rel =>
        refine ⟨j + 1, _, by omega, by go_num, ?_, rfl, ?_, ?_⟩
        · rw [unhide HT, hcn]
          have := unhide HK
          omega
        · rw [← unhide HM _ (unhide HD).symm]
          exact unhide HF _ _ _ (unhide HR) (mkOwn_Write (x := ⟨kj, kj + 1, (Lay.sl Lay.int).mkv (kj + 1 + 1) x.vec, kj + 1 + 1 + ((Lay.sl Lay.int).vcnt x.vec : Nat), kj + 1 + 1 + ((Lay.sl Lay.int).vcnt x.vec : Nat) + 1⟩) (unhide HQ) (show (Lit.int .i64 (kj)).wf = true from wf_of_bd (by omega)) (show (Lit.int .i64 (kj + 1)).wf = true from wf_of_bd (by omega)) (show (Lit.int .i64 (kj + 1 + 1 + ((Lay.sl Lay.int).vcnt x.vec : Nat))).wf = true from wf_of_bd (by omega)) (show (Lit.int .i64 (kj + 1 + 1 + ((Lay.sl Lay.int).vcnt x.vec : Nat) + 1)).wf = true from wf_of_bd (by omega)) (unhide HN))
        · exact (unhide HX).trans ((unhide HR).ext.mono fun q _ hq => unhide HI q (by rcases hq with h | h; exact Or.inl h.symm; exact Or.inr h))
      case measure => simp [intOf]; omega
    · obtain rfl : j = xs.length := by omega
      rw [mkPre_all] at hO
      rw [List.take_length] at hkj
      have HK := hide hkj
      clear hkj
      have HO := hide hO
      have HX := hide hX
      clear hO hX
      go_wp2_with fail
      go_ret
      exact ⟨by rw [← unhide HK]; rfl, unhide HO, unhide HX⟩

theorem markWrite_zero (ao : Option Addr) (cap : Nat) (k : Int) (w : World) :
    Calls Try.prog 17 #[.slice ao 0 cap, .int .i64 k] w fun e w' => e = .returned (.int .i64 k) ∧ w' = w := by
  go_enter Try.func17, Try.ntmps17
  go_wp2_with fail
  refine wp_loop_rounds 1 ?_
  rw [rounds_succ]
  go_wp2_with fail
  go_ret
  exact ⟨rfl, rfl⟩

/-- markWriteS. -/
theorem mark_WriteS (v : Value) (xs : List DWrite) (bl : List Nat) (k : Int) (w : World) (h : (Lay.sl Lay.tWrite).Own w [v] xs bl) (hk : 0 ≤ k) (hk2 : k + (Lay.sl Lay.tWrite).vcnt xs ≤ 1000000000) :
    Calls Try.prog 17 #[v, .int .i64 k] w fun e w' => e = .returned (.int .i64 (k + (Lay.sl Lay.tWrite).vcnt xs)) ∧ (Lay.sl Lay.tWrite).Own w' [v] ((Lay.sl Lay.tWrite).mkv k xs) bl ∧ Ext (fun q => q ∈ bl) w w' := by
  obtain ⟨ao, cap, rfl⟩ := open_sl h.reads
  by_cases hp : 0 < xs.length
  · obtain ⟨b, off, rfl, hbl⟩ := Lay.sl_addr h.reads hp
    exact markWrite_pos b off cap xs bl k w h hk hk2
  · obtain rfl : xs = [] := List.eq_nil_of_length_eq_zero (by omega)
    refine (markWrite_zero ao cap k w).mono ?_
    rintro e w' ⟨rfl, rfl⟩
    exact ⟨by rw [vcnt_WriteS]; simp [cntAll], h, Ext.refl _ _⟩

end Go.Proofs.Ytipomhpimmnchaa

namespace Go.Proofs.Ytipomhpimmnchaa
open Go.RowKit

set_option maxRecDepth 10000 in
set_option maxHeartbeats 1000000 in
theorem mark_WritesResult (cs : List Value) (x : DWritesResult) (bl : List Nat) (k : Int) (w : World) (h : Lay.tWritesResult.Own w cs x bl) (hk : 0 ≤ k) (hk2 : k + Lay.tWritesResult.vcnt x ≤ 1000000000) :
    Calls Try.prog 26 #[.agg cs.toArray, .int .i64 k] w fun e w' => e = .returned (.int .i64 (k + Lay.tWritesResult.vcnt x)) ∧ Lay.tWritesResult.Own w' cs (Lay.tWritesResult.mkv k x) bl ∧ Ext (fun q => q ∈ bl) w w' := by
  have hlt := h.lt
  have hnd := h.2.1
  rw [vcnt_WritesResult] at hk2
  obtain ⟨a1, d1, g1, rfl, hbl, O1, v0⟩ := own_WritesResult h
  clear h
  have HB0 : Below w.heap.size w (w.alloc (.cells #[.int .i64 x.code, .slice a1 x.writes.length d1] 36)) := (Below.refl _ _).alloc (Nat.le_refl _) _
  have bA : Box w.heap.size #[.int .i64 x.code, .slice a1 x.writes.length d1] 36 (w.alloc (.cells #[.int .i64 x.code, .slice a1 x.writes.length d1] 36)) w.heap.size := newBox (Nat.le_refl _)
  have HN := hide hnd
  have HV := hide (vcnt_WritesResult x)
  have HM := hide (mkv_WritesResult k x)
  clear hnd
  go_enter Try.func26, Try.ntmps26
  go_wp2_with fail
  generalize w.alloc (.cells #[.int .i64 x.code, .slice a1 x.writes.length d1] 36) = W0 at *
  replace O1 := O1.later HB0
  have hsz := HB0.size
  have EX : Ext (fun q => q ∈ bl) w W0 := ext_of_below HB0 _
  have hs0 := bA.lt
  refine (mark_WriteS _ x.writes g1 (k) _ O1 (by omega) (by omega)).mono ?_
  rintro e w1 ⟨rfl, Q1, E1⟩
  replace EX := EX.trans (E1.mono fun b _ hb => by rw [hbl]; simp [hb])
  replace bA := bA.ext E1 (fun hm => by have := hlt w.heap.size (by rw [hbl]; simp [hm]); omega)
  clear E1
  have HA := hide bA
  have HX := hide EX
  have HL := hide hlt
  have HBL := hide hbl
  clear bA EX hlt hbl
  have P1 := hide Q1
  clear Q1
  clear O1
  go_wp2_with fail
  go_ret
  refine ⟨?_, ?_, unhide HX⟩
  · rw [show k + (Lay.tWritesResult.vcnt x : Int) = k + ((Lay.sl Lay.tWrite).vcnt x.writes : Int) by rw [unhide HV]]
    rfl
  · have e := unhide HBL
    subst e
    rw [unhide HM]
    exact mkOwn_WritesResult (x := ⟨x.code, (Lay.sl Lay.tWrite).mkv (k) x.writes⟩) (unhide P1) v0 (unhide HN)

end Go.Proofs.Ytipomhpimmnchaa

namespace Go.Proofs.Ytipomhpimmnchaa
open Go.RowKit

set_option maxRecDepth 10000 in
set_option maxHeartbeats 2000000 in
theorem heldWrite_pos (b off cap : Nat) (xs : List DWrite) (k : Int) (w : World) (h : (Lay.sl Lay.tWrite).Reads w [.slice (some ⟨b, off, none⟩) (mkAll Lay.tWrite.cnt Lay.tWrite.mkd k xs).length cap] (mkAll Lay.tWrite.cnt Lay.tWrite.mkd k xs)) (hbl : b < w.heap.size) (hk : 0 ≤ k) (hk2 : k + (cntAll Lay.tWrite.cnt xs : Nat) ≤ 1000000000) :
    Calls Try.prog 60 #[.slice (some ⟨b, off, none⟩) xs.length cap, .int .i64 k] w fun e w' => e = .returned (.int .i64 (k + (cntAll Lay.tWrite.cnt xs : Nat))) ∧ Below w.heap.size w w' := by
  have hbig := h.big
  rw [mkAll_size] at hbig
  have H := hide h
  clear h
  go_enter Try.func60, Try.ntmps60
  go_wp2_with fail
  go_loopw [1, 5] (fun kk i wr => ∃ (j : Nat) (kj : Int), j ≤ xs.length ∧ i = .int .i64 j ∧ kj = k + (cntAll Lay.tWrite.cnt (xs.take j) : Nat) ∧ kk = .int .i64 kj ∧ Below w.heap.size w wr) (fun _ i _ => xs.length - (intOf i).toNat)
  case atStart => exact ⟨0, k, Nat.zero_le _, rfl, by simp [cntAll], rfl, Below.refl _ _⟩
  case round =>
    obtain ⟨j, kj, hj, rfl, hkj, rfl, hB⟩ := hrel
    by_cases hlt : j < xs.length
    · have hj2 : j < (mkAll Lay.tWrite.cnt Lay.tWrite.mkd k xs).length := by rw [mkAll_size]; exact hlt
      obtain ⟨row, hc, hr⟩ := Lay.row_at (unhide H) hj2
      rw [mkAll_at _ _ _ _ _ hlt hj2, ← hkj, mkd_Write] at hr
      have HT := hide (Lay.cntAll_take (f := Lay.tWrite.cnt) hlt)
      have hle := Lay.cntAll_take_le (f := Lay.tWrite.cnt) (xs := xs) (k := j + 1)
      rw [unhide HT] at hle
      clear hj2
      generalize hx : xs[j] = x at *
      clear hx
      have hcn := cnt_Write x
      have hb1 : 0 ≤ kj := by omega
      have hb2 : kj + (Lay.tWrite.cnt x : Int) ≤ 1000000000 := by omega
      have HK := hide hkj
      clear hkj hle
      replace hr := hr.later hB
      obtain ⟨a2, d2, rfl, R2⟩ := open_Write hr
      clear hr
      generalize hn : (⟨kj, kj + 1, (Lay.sl Lay.int).mkv (kj + 1 + 1) x.vec, kj + 1 + 1 + ((Lay.sl Lay.int).vcnt x.vec : Nat), kj + 1 + 1 + ((Lay.sl Lay.int).vcnt x.vec : Nat) + 1⟩ : DWrite).vec.length = n1 at *
      clear hn
      have c0 : wr.cell? ⟨b, off + j * 5, none⟩ = some (.int .i64 (kj)) := (hB.cell (p := ⟨b, off + j * 5, none⟩) hbl).trans (hc 0 (by decide))
      have e0 : ((kj : Int) != (kj : Int)) = false := by simp
      have c1 : wr.cell? ⟨b, off + j * 5 + 1, none⟩ = some (.int .i64 (kj + 1)) := (hB.cell (p := ⟨b, off + j * 5 + 1, none⟩) hbl).trans (hc 1 (by decide))
      have e1 : ((kj + 1 : Int) != (kj + 1 : Int)) = false := by simp
      have c2 : wr.cell? ⟨b, off + j * 5 + 2, none⟩ = some (.slice a2 n1 d2) := (hB.cell (p := ⟨b, off + j * 5 + 2, none⟩) hbl).trans (hc 2 (by decide))
      have c3 : wr.cell? ⟨b, off + j * 5 + 3, none⟩ = some (.int .i64 (kj + 1 + 1 + ((Lay.sl Lay.int).vcnt x.vec : Nat))) := (hB.cell (p := ⟨b, off + j * 5 + 3, none⟩) hbl).trans (hc 3 (by decide))
      have e3 : ((kj + 1 + 1 + ((Lay.sl Lay.int).vcnt x.vec : Nat) : Int) != (kj + 1 + 1 + ((Lay.sl Lay.int).vcnt x.vec : Nat) : Int)) = false := by simp
      have c4 : wr.cell? ⟨b, off + j * 5 + 4, none⟩ = some (.int .i64 (kj + 1 + 1 + ((Lay.sl Lay.int).vcnt x.vec : Nat) + 1)) := (hB.cell (p := ⟨b, off + j * 5 + 4, none⟩) hbl).trans (hc 4 (by decide))
      have e4 : ((kj + 1 + 1 + ((Lay.sl Lay.int).vcnt x.vec : Nat) + 1 : Int) != (kj + 1 + 1 + ((Lay.sl Lay.int).vcnt x.vec : Nat) + 1 : Int)) = false := by simp
      have HB := hide hB
      clear hB hc
      go_wp2_with fail
      refine (held_Int64S _ x.vec (kj + 1 + 1) _ R2 (by omega) (by omega)).mono ?_
      rintro e w2 ⟨rfl, hb⟩
      have l1 : b < wr.heap.size := Nat.lt_of_lt_of_le hbl (unhide HB).size
      replace c3 := (hb.cell (p := ⟨b, off + j * 5 + 3, none⟩) l1).trans c3
      replace c4 := (hb.cell (p := ⟨b, off + j * 5 + 4, none⟩) l1).trans c4
      replace HB := hide ((unhide HB).trans (hb.mono (unhide HB).size))
      clear hb R2 l1 c0 c1 c2
      have hq : decide (kj + 1 + 1 + ((Lay.sl Lay.int).vcnt x.vec : Int) < 0) = false := by simp; omega
      go_wp2_with fail
      go_roundw
      case rel => exact ⟨j + 1, _, by omega, by go_num, (by rw [unhide HT, hcn]; have := unhide HK; omega), rfl, unhide HB⟩
      case measure => simp [intOf]; omega
    · obtain rfl : j = xs.length := by omega
      rw [List.take_length] at hkj
      have HK := hide hkj
      have HB := hide hB
      clear hB hkj
      go_wp2_with fail
      go_ret
      exact ⟨by rw [← unhide HK]; rfl, unhide HB⟩

theorem heldWrite_zero (ao : Option Addr) (cap : Nat) (k : Int) (w : World) :
    Calls Try.prog 60 #[.slice ao 0 cap, .int .i64 k] w fun e w' => e = .returned (.int .i64 k) ∧ w' = w := by
  go_enter Try.func60, Try.ntmps60
  go_wp2_with fail
  refine wp_loop_rounds 1 ?_
  rw [rounds_succ]
  go_wp2_with fail
  go_ret
  exact ⟨rfl, rfl⟩

/-- heldWriteS. -/
theorem held_WriteS (v : Value) (xs : List DWrite) (k : Int) (w : World) (h : (Lay.sl Lay.tWrite).Reads w [v] ((Lay.sl Lay.tWrite).mkv k xs)) (hk : 0 ≤ k) (hk2 : k + (Lay.sl Lay.tWrite).vcnt xs ≤ 1000000000) :
    Calls Try.prog 60 #[v, .int .i64 k] w fun e w' => e = .returned (.int .i64 (k + (Lay.sl Lay.tWrite).vcnt xs)) ∧ Below w.heap.size w w' := by
  rw [mkv_WriteS] at h
  obtain ⟨ao, cap, rfl⟩ := open_sl h
  by_cases hp : 0 < xs.length
  · obtain ⟨b, off, rfl, hbl⟩ := Lay.sl_addr h (by rw [mkAll_size]; exact hp)
    have L := heldWrite_pos b off cap xs k w h hbl hk hk2
    rw [mkAll_size]
    exact L
  · obtain rfl : xs = [] := List.eq_nil_of_length_eq_zero (by omega)
    refine (heldWrite_zero ao cap k w).mono ?_
    rintro e w' ⟨rfl, rfl⟩
    exact ⟨by rw [vcnt_WriteS]; simp [cntAll], Below.refl _ _⟩

end Go.Proofs.Ytipomhpimmnchaa

namespace Go.Proofs.Ytipomhpimmnchaa
open Go.RowKit

set_option maxRecDepth 10000 in
set_option maxHeartbeats 1000000 in
theorem held_WritesResult (cs : List Value) (x : DWritesResult) (k : Int) (w : World) (h : Lay.tWritesResult.Reads w cs (Lay.tWritesResult.mkv k x)) (hk : 0 ≤ k) (hk2 : k + Lay.tWritesResult.vcnt x ≤ 1000000000) :
    Calls Try.prog 27 #[.agg cs.toArray, .int .i64 k] w fun e w' => e = .returned (.int .i64 (k + Lay.tWritesResult.vcnt x)) ∧ Below w.heap.size w w' := by
  rw [mkv_WritesResult] at h
  rw [vcnt_WritesResult] at hk2
  have HV := hide (vcnt_WritesResult x)
  obtain ⟨a1, d1, rfl, R1⟩ := open_WritesResult h
  clear h
  generalize hn1 : (⟨x.code, (Lay.sl Lay.tWrite).mkv (k) x.writes⟩ : DWritesResult).writes.length = n1 at *
  clear hn1
  have HB0 : Below w.heap.size w (w.alloc (.cells #[.int .i64 x.code, .slice a1 n1 d1] 36)) := (Below.refl _ _).alloc (Nat.le_refl _) _
  have bA : Box w.heap.size #[.int .i64 x.code, .slice a1 n1 d1] 36 (w.alloc (.cells #[.int .i64 x.code, .slice a1 n1 d1] 36)) w.heap.size := newBox (Nat.le_refl _)
  go_enter Try.func27, Try.ntmps27
  go_wp2_with fail
  generalize w.alloc (.cells #[.int .i64 x.code, .slice a1 n1 d1] 36) = W0 at *
  replace R1 := R1.later HB0
  refine (held_WriteS _ x.writes (k) _ R1 (by omega) (by omega)).mono ?_
  rintro e w1 ⟨rfl, hb⟩
  replace HB0 := HB0.trans (hb.mono HB0.size)
  replace bA := bA.keep hb
  have HA := hide bA
  have HX := hide HB0
  clear bA HB0 hb R1
  have hq : decide (k + ((Lay.sl Lay.tWrite).vcnt x.writes : Int) < 0) = false := by simp; omega
  go_wp2_with fail
  clear hq
  go_ret
  refine ⟨?_, unhide HX⟩
  rw [show k + (Lay.tWritesResult.vcnt x : Int) = k + ((Lay.sl Lay.tWrite).vcnt x.writes : Int) by rw [unhide HV]]
  rfl

end Go.Proofs.Ytipomhpimmnchaa

namespace Go.Proofs.Ytipomhpimmnchaa
open Go.RowKit

set_option maxRecDepth 100000 in
set_option maxHeartbeats 4000000 in
theorem lawx_ReadLog (v0 : Value) (x0 : List Int) (y : DWritesResult) (w : World) (A0 : (Lay.sl Lay.int).Reads w [v0] x0) (N0 : (Lay.sl Lay.int).sz x0 ≤ 1048576)
    (hS : ∀ (W : World) (v0 : Value), (Lay.sl Lay.int).Reads W [v0] x0 → Calls Try.prog 20 #[v0] W fun e w' => ∃ cs, e = .returned (.agg cs.toArray) ∧ Lay.tWritesResult.Reads w' cs y ∧ Below W.heap.size W w')
    (hI : ∀ (W : World) (v0 : Value), (Lay.sl Lay.int).Reads W [v0] x0 → Calls Try.prog 22 #[v0] W fun e w' => ∃ cs, e = .returned (.agg cs.toArray) ∧ Lay.tWritesResult.OwnIn w' cs y W.heap.size w'.heap.size ∧ Below W.heap.size W w') (hc : Lay.tWritesResult.vcnt y ≤ 100000000) :
    Calls Try.prog 4 #[v0] w fun e w' => e = .returned (.bool true) ∧ Below w.heap.size w w' := by
  obtain ⟨ao0, cp0, rfl⟩ := open_sl A0
  have HS := hide hS
  have HI := hide hI
  clear hS hI
  have HA0 := hide A0.liesIn
  clear A0
  have HN0 := hide N0
  have L0 : x0.length ≤ 1048576 := by have := N0; rw [sz_ints] at this; exact this
  clear N0
  have HC := hide hc
  clear hc
  have HB := hide (Below.refl w.heap.size w)
  go_enter Try.func4, Try.ntmps4
  go_wp2_with fail
  refine (to_Int64S _ x0 w (unhide HA0).reads (unhide HN0)).mono ?_
  rintro e w1 ⟨vc0, rfl, O, hb⟩
  replace HA0 := hide ((unhide HA0).later hb)
  have Zw1 : w.heap.size ≤ w1.heap.size := hb.size
  replace HB := hide ((unhide HB).trans (hb.mono (by omega)))
  clear hb
  obtain ⟨aoc0, cpc0, rfl⟩ := open_sl O.reads
  have Hc0 := hide O
  clear O
  go_wp2_with fail
  refine (unhide HS w1 _ (unhide Hc0).reads).mono ?_
  rintro e w2 ⟨cs, rfl, O, hb⟩
  replace HA0 := hide ((unhide HA0).later hb)
  replace Hc0 := hide ((unhide Hc0).later hb)
  have Zw2 : w1.heap.size ≤ w2.heap.size := hb.size
  replace HB := hide ((unhide HB).trans (hb.mono (by omega)))
  clear hb
  obtain ⟨a1W, d1W, rfl, -⟩ := open_WritesResult O
  have HW := hide O.liesIn
  clear O
  have nb : Below w2.heap.size w2 (w2.alloc (.cells #[.int .i64 y.code, .slice a1W y.writes.length d1W] 36)) := (Below.refl _ _).alloc (Nat.le_refl _) _
  have YW : Hid (Box w2.heap.size #[.int .i64 y.code, .slice a1W y.writes.length d1W] 36 (w2.alloc (.cells #[.int .i64 y.code, .slice a1W y.writes.length d1W] 36)) w2.heap.size) := newBox (Nat.le_refl _)
  clear Hc0
  go_wp2_with fail
  generalize haw3 : w2.alloc (.cells #[.int .i64 y.code, .slice a1W y.writes.length d1W] 36) = w3 at *
  have Gw3 : w2.heap.size < w3.heap.size := by rw [← haw3]; simp
  clear haw3
  replace HA0 := hide ((unhide HA0).later nb)
  replace HW := hide ((unhide HW).later nb)
  have Zw3 : w2.heap.size ≤ w3.heap.size := nb.size
  replace HB := hide ((unhide HB).trans (nb.mono (by omega)))
  clear nb
  refine (to_Int64S _ x0 w3 (unhide HA0).reads (unhide HN0)).mono ?_
  rintro e w4 ⟨vx0, rfl, O, hb⟩
  replace HA0 := hide ((unhide HA0).later hb)
  replace HW := hide ((unhide HW).later hb)
  replace YW := hide ((unhide YW).keep hb)
  have Zw4 : w3.heap.size ≤ w4.heap.size := hb.size
  replace HB := hide ((unhide HB).trans (hb.mono (by omega)))
  clear hb
  obtain ⟨aox0, cpx0, rfl⟩ := open_sl O.reads
  have Hx0 := hide O
  clear O
  have l0YW := (unhide YW).at 0 _ rfl
  have l1YW := (unhide YW).at 1 _ rfl
  have ltYW : w2.heap.size < w4.heap.size := by omega
  simp only [List.getElem_toArray, List.getElem_cons_zero, List.getElem_cons_succ] at l0YW l1YW
  go_wp2_with fail
  clear l0YW l1YW ltYW
  refine (unhide HI w4 _ (unhide Hx0).reads).mono ?_
  rintro e w5 ⟨cs, rfl, O, hb⟩
  replace HA0 := hide ((unhide HA0).later hb)
  replace HW := hide ((unhide HW).later hb)
  replace YW := hide ((unhide YW).keep hb)
  replace Hx0 := hide ((unhide Hx0).later hb)
  have Zw5 : w4.heap.size ≤ w5.heap.size := hb.size
  replace HB := hide ((unhide HB).trans (hb.mono (by omega)))
  clear hb
  obtain ⟨a1G, d1G, rfl, -⟩ := open_WritesResult O.reads
  have HG := hide O
  clear O
  have nb : Below w5.heap.size w5 (w5.alloc (.cells #[.int .i64 y.code, .slice a1G y.writes.length d1G] 36)) := (Below.refl _ _).alloc (Nat.le_refl _) _
  have YG : Hid (Box w5.heap.size #[.int .i64 y.code, .slice a1G y.writes.length d1G] 36 (w5.alloc (.cells #[.int .i64 y.code, .slice a1G y.writes.length d1G] 36)) w5.heap.size) := newBox (Nat.le_refl _)
  have l0YW := (unhide YW).at 0 _ rfl
  have l1YW := (unhide YW).at 1 _ rfl
  have ltYW : w2.heap.size < w5.heap.size := by omega
  simp only [List.getElem_toArray, List.getElem_cons_zero, List.getElem_cons_succ] at l0YW l1YW
  go_wp2_with fail
  clear l0YW l1YW ltYW
  generalize haw6 : w5.alloc (.cells #[.int .i64 y.code, .slice a1G y.writes.length d1G] 36) = w6 at *
  have Gw6 : w5.heap.size < w6.heap.size := by rw [← haw6]; simp
  clear haw6
  replace HA0 := hide ((unhide HA0).later nb)
  replace HW := hide ((unhide HW).later nb)
  replace YW := hide ((unhide YW).keep nb)
  replace Hx0 := hide ((unhide Hx0).later nb)
  replace HG := hide ((unhide HG).later nb)
  have Zw6 : w5.heap.size ≤ w6.heap.size := nb.size
  replace HB := hide ((unhide HB).trans (nb.mono (by omega)))
  clear nb
  refine (eq_WritesResult _ _ y w6 (unhide HG).reads (unhide HW).reads).mono ?_
  rintro e w7 ⟨rfl, hb⟩
  replace HA0 := hide ((unhide HA0).later hb)
  replace HW := hide ((unhide HW).later hb)
  replace YW := hide ((unhide YW).keep hb)
  replace Hx0 := hide ((unhide Hx0).later hb)
  replace HG := hide ((unhide HG).later hb)
  replace YG := hide ((unhide YG).keep hb)
  have Zw7 : w6.heap.size ≤ w7.heap.size := hb.size
  replace HB := hide ((unhide HB).trans (hb.mono (by omega)))
  clear hb
  have l0YW := (unhide YW).at 0 _ rfl
  have l1YW := (unhide YW).at 1 _ rfl
  have ltYW : w2.heap.size < w7.heap.size := by omega
  have l0YG := (unhide YG).at 0 _ rfl
  have l1YG := (unhide YG).at 1 _ rfl
  have ltYG : w5.heap.size < w7.heap.size := by omega
  simp only [List.getElem_toArray, List.getElem_cons_zero, List.getElem_cons_succ] at l0YW l1YW l0YG l1YG
  go_wp2_with fail
  clear l0YW l1YW ltYW l0YG l1YG ltYG
  refine (to_Int64S _ x0 w7 (unhide HA0).reads (unhide HN0)).mono ?_
  rintro e w8 ⟨vd0, rfl, O, hb⟩
  replace HA0 := hide ((unhide HA0).later hb)
  replace HW := hide ((unhide HW).later hb)
  replace YW := hide ((unhide YW).keep hb)
  replace Hx0 := hide ((unhide Hx0).later hb)
  replace HG := hide ((unhide HG).later hb)
  replace YG := hide ((unhide YG).keep hb)
  have Zw8 : w7.heap.size ≤ w8.heap.size := hb.size
  replace HB := hide ((unhide HB).trans (hb.mono (by omega)))
  clear hb
  obtain ⟨aod0, cpd0, rfl⟩ := open_sl O.reads
  have Hd0 := hide O
  clear O
  have l0YW := (unhide YW).at 0 _ rfl
  have l1YW := (unhide YW).at 1 _ rfl
  have ltYW : w2.heap.size < w8.heap.size := by omega
  have l0YG := (unhide YG).at 0 _ rfl
  have l1YG := (unhide YG).at 1 _ rfl
  have ltYG : w5.heap.size < w8.heap.size := by omega
  simp only [List.getElem_toArray, List.getElem_cons_zero, List.getElem_cons_succ] at l0YW l1YW l0YG l1YG
  go_wp2_with fail
  clear l0YW l1YW ltYW l0YG l1YG ltYG
  refine (eq_Int64S _ _ x0 w8 (unhide Hx0).reads (unhide Hd0).reads).mono ?_
  rintro e w9 ⟨rfl, hb⟩
  replace HA0 := hide ((unhide HA0).later hb)
  replace HW := hide ((unhide HW).later hb)
  replace YW := hide ((unhide YW).keep hb)
  replace Hx0 := hide ((unhide Hx0).later hb)
  replace HG := hide ((unhide HG).later hb)
  replace YG := hide ((unhide YG).keep hb)
  replace Hd0 := hide ((unhide Hd0).later hb)
  have Zw9 : w8.heap.size ≤ w9.heap.size := hb.size
  replace HB := hide ((unhide HB).trans (hb.mono (by omega)))
  clear hb
  clear Hd0
  have l0YW := (unhide YW).at 0 _ rfl
  have l1YW := (unhide YW).at 1 _ rfl
  have ltYW : w2.heap.size < w9.heap.size := by omega
  have l0YG := (unhide YG).at 0 _ rfl
  have l1YG := (unhide YG).at 1 _ rfl
  have ltYG : w5.heap.size < w9.heap.size := by omega
  simp only [List.getElem_toArray, List.getElem_cons_zero, List.getElem_cons_succ] at l0YW l1YW l0YG l1YG
  go_wp2_with fail
  clear l0YW l1YW ltYW l0YG l1YG ltYG
  obtain ⟨bl, O, hbl⟩ := unhide Hx0
  clear Hx0
  have HCx0 := few_bound (A := (Lay.sl Lay.int)) (few_sl few_int) (unhide HN0) (by omega)
  refine (mark_Int64S _ x0 bl (1) w9 O (by omega) (by omega)).mono ?_
  rintro e w10 ⟨rfl, -, E⟩
  replace E := E.mono (S' := within w3.heap.size w4.heap.size) fun b _ hb => hbl b hb
  clear hbl O
  have zlo : w.heap.size ≤ w3.heap.size ∧ w4.heap.size ≤ w9.heap.size := by omega
  replace HA0 := hide ((unhide HA0).ext E (within_out (by omega)))
  replace HW := hide ((unhide HW).ext E (within_out (by omega)))
  replace YW := hide ((unhide YW).ext E (fun q => by simp only [within] at q; omega))
  replace HG := hide ((unhide HG).ext E (within_out (by omega)))
  replace YG := hide ((unhide YG).ext E (fun q => by simp only [within] at q; omega))
  have Zw10 : w9.heap.size ≤ w10.heap.size := E.size
  replace HB := hide ((unhide HB).trans (E.below (by omega) (fun k h q => by simp only [within] at q; omega)))
  clear E
  clear zlo
  obtain ⟨mk, hmk⟩ : ∃ mk : Int, mk = 1 + ((Lay.sl Lay.int).vcnt x0 : Int) := ⟨_, rfl⟩
  rw [← hmk]
  have hm3 : decide (mk < 0) = false := decide_eq_false (by omega)
  clear hmk HCx0
  have l0YW := (unhide YW).at 0 _ rfl
  have l1YW := (unhide YW).at 1 _ rfl
  have ltYW : w2.heap.size < w10.heap.size := by omega
  have l0YG := (unhide YG).at 0 _ rfl
  have l1YG := (unhide YG).at 1 _ rfl
  have ltYG : w5.heap.size < w10.heap.size := by omega
  simp only [List.getElem_toArray, List.getElem_cons_zero, List.getElem_cons_succ] at l0YW l1YW l0YG l1YG
  go_wp2_with fail
  clear l0YW l1YW ltYW l0YG l1YG ltYG
  refine (eq_WritesResult _ _ y w10 (unhide HG).reads (unhide HW).reads).mono ?_
  rintro e w11 ⟨rfl, hb⟩
  replace HA0 := hide ((unhide HA0).later hb)
  replace HW := hide ((unhide HW).later hb)
  replace YW := hide ((unhide YW).keep hb)
  replace HG := hide ((unhide HG).later hb)
  replace YG := hide ((unhide YG).keep hb)
  have Zw11 : w10.heap.size ≤ w11.heap.size := hb.size
  replace HB := hide ((unhide HB).trans (hb.mono (by omega)))
  clear hb
  clear hm3
  have l0YW := (unhide YW).at 0 _ rfl
  have l1YW := (unhide YW).at 1 _ rfl
  have ltYW : w2.heap.size < w11.heap.size := by omega
  have l0YG := (unhide YG).at 0 _ rfl
  have l1YG := (unhide YG).at 1 _ rfl
  have ltYG : w5.heap.size < w11.heap.size := by omega
  simp only [List.getElem_toArray, List.getElem_cons_zero, List.getElem_cons_succ] at l0YW l1YW l0YG l1YG
  go_wp2_with fail
  clear l0YW l1YW ltYW l0YG l1YG ltYG
  obtain ⟨bl, O, hbl⟩ := unhide HG
  clear HG
  have hcy := unhide HC
  refine (mark_WritesResult _ y bl 1 w11 O (by omega) (by omega)).mono ?_
  rintro e w12 ⟨rfl, O2, E⟩
  replace E := E.mono (S' := within w4.heap.size w5.heap.size) fun b _ hb => hbl b hb
  have HG : Hid (Lay.tWritesResult.OwnIn w12 _ (Lay.tWritesResult.mkv 1 y) w4.heap.size w5.heap.size) := ⟨bl, O2, hbl⟩
  clear hbl O O2
  have zlo : w.heap.size ≤ w4.heap.size ∧ w5.heap.size ≤ w11.heap.size := by omega
  replace HA0 := hide ((unhide HA0).ext E (within_out (by omega)))
  replace HW := hide ((unhide HW).ext E (within_out (by omega)))
  replace YW := hide ((unhide YW).ext E (fun q => by simp only [within] at q; omega))
  replace YG := hide ((unhide YG).ext E (fun q => by simp only [within] at q; omega))
  have Zw12 : w11.heap.size ≤ w12.heap.size := E.size
  replace HB := hide ((unhide HB).trans (E.below (by omega) (fun k h q => by simp only [within] at q; omega)))
  clear E
  clear zlo
  have hq0 : decide (1 + (Lay.tWritesResult.vcnt y : Int) < 0) = false := decide_eq_false (by omega)
  have hq1 : ((1 + (Lay.tWritesResult.vcnt y : Int)) != (1 + (Lay.tWritesResult.vcnt y : Int))) = false := by simp
  clear hcy
  have l0YW := (unhide YW).at 0 _ rfl
  have l1YW := (unhide YW).at 1 _ rfl
  have ltYW : w2.heap.size < w12.heap.size := by omega
  have l0YG := (unhide YG).at 0 _ rfl
  have l1YG := (unhide YG).at 1 _ rfl
  have ltYG : w5.heap.size < w12.heap.size := by omega
  simp only [List.getElem_toArray, List.getElem_cons_zero, List.getElem_cons_succ] at l0YW l1YW l0YG l1YG
  go_wp2_with fail
  clear l0YW l1YW ltYW l0YG l1YG ltYG
  refine (held_WritesResult _ y 1 w12 (unhide HG).reads (by omega) (by have := unhide HC; omega)).mono ?_
  rintro e w13 ⟨rfl, hb⟩
  replace HA0 := hide ((unhide HA0).later hb)
  replace HW := hide ((unhide HW).later hb)
  replace YW := hide ((unhide YW).keep hb)
  replace YG := hide ((unhide YG).keep hb)
  replace HG := hide ((unhide HG).later hb)
  have Zw13 : w12.heap.size ≤ w13.heap.size := hb.size
  replace HB := hide ((unhide HB).trans (hb.mono (by omega)))
  clear hb
  have l0YW := (unhide YW).at 0 _ rfl
  have l1YW := (unhide YW).at 1 _ rfl
  have ltYW : w2.heap.size < w13.heap.size := by omega
  have l0YG := (unhide YG).at 0 _ rfl
  have l1YG := (unhide YG).at 1 _ rfl
  have ltYG : w5.heap.size < w13.heap.size := by omega
  simp only [List.getElem_toArray, List.getElem_cons_zero, List.getElem_cons_succ] at l0YW l1YW l0YG l1YG
  go_wp2_with fail
  clear l0YW l1YW ltYW l0YG l1YG ltYG
  refine (to_Int64S _ x0 w13 (unhide HA0).reads (unhide HN0)).mono ?_
  rintro e w14 ⟨vf0, rfl, O, hb⟩
  replace HA0 := hide ((unhide HA0).later hb)
  replace HW := hide ((unhide HW).later hb)
  replace YW := hide ((unhide YW).keep hb)
  replace YG := hide ((unhide YG).keep hb)
  replace HG := hide ((unhide HG).later hb)
  have Zw14 : w13.heap.size ≤ w14.heap.size := hb.size
  replace HB := hide ((unhide HB).trans (hb.mono (by omega)))
  clear hb
  obtain ⟨aof0, cpf0, rfl⟩ := open_sl O.reads
  have Hf0 := hide O
  clear O
  have l0YW := (unhide YW).at 0 _ rfl
  have l1YW := (unhide YW).at 1 _ rfl
  have ltYW : w2.heap.size < w14.heap.size := by omega
  have l0YG := (unhide YG).at 0 _ rfl
  have l1YG := (unhide YG).at 1 _ rfl
  have ltYG : w5.heap.size < w14.heap.size := by omega
  simp only [List.getElem_toArray, List.getElem_cons_zero, List.getElem_cons_succ] at l0YW l1YW l0YG l1YG
  go_wp2_with fail
  clear l0YW l1YW ltYW l0YG l1YG ltYG
  refine (unhide HI w14 _ (unhide Hf0).reads).mono ?_
  rintro e w15 ⟨cs, rfl, O, hb⟩
  replace HA0 := hide ((unhide HA0).later hb)
  replace HW := hide ((unhide HW).later hb)
  replace YW := hide ((unhide YW).keep hb)
  replace YG := hide ((unhide YG).keep hb)
  replace HG := hide ((unhide HG).later hb)
  replace Hf0 := hide ((unhide Hf0).later hb)
  have Zw15 : w14.heap.size ≤ w15.heap.size := hb.size
  replace HB := hide ((unhide HB).trans (hb.mono (by omega)))
  clear hb
  obtain ⟨a1K, d1K, rfl, -⟩ := open_WritesResult O.reads
  have HK := hide O
  clear O
  have nb : Below w15.heap.size w15 (w15.alloc (.cells #[.int .i64 y.code, .slice a1K y.writes.length d1K] 36)) := (Below.refl _ _).alloc (Nat.le_refl _) _
  have YK : Hid (Box w15.heap.size #[.int .i64 y.code, .slice a1K y.writes.length d1K] 36 (w15.alloc (.cells #[.int .i64 y.code, .slice a1K y.writes.length d1K] 36)) w15.heap.size) := newBox (Nat.le_refl _)
  clear Hf0
  have l0YW := (unhide YW).at 0 _ rfl
  have l1YW := (unhide YW).at 1 _ rfl
  have ltYW : w2.heap.size < w15.heap.size := by omega
  have l0YG := (unhide YG).at 0 _ rfl
  have l1YG := (unhide YG).at 1 _ rfl
  have ltYG : w5.heap.size < w15.heap.size := by omega
  simp only [List.getElem_toArray, List.getElem_cons_zero, List.getElem_cons_succ] at l0YW l1YW l0YG l1YG
  go_wp2_with fail
  clear l0YW l1YW ltYW l0YG l1YG ltYG
  generalize haw16 : w15.alloc (.cells #[.int .i64 y.code, .slice a1K y.writes.length d1K] 36) = w16 at *
  have Gw16 : w15.heap.size < w16.heap.size := by rw [← haw16]; simp
  clear haw16
  replace HA0 := hide ((unhide HA0).later nb)
  replace HW := hide ((unhide HW).later nb)
  replace YW := hide ((unhide YW).keep nb)
  replace YG := hide ((unhide YG).keep nb)
  replace HG := hide ((unhide HG).later nb)
  replace HK := hide ((unhide HK).later nb)
  have Zw16 : w15.heap.size ≤ w16.heap.size := nb.size
  replace HB := hide ((unhide HB).trans (nb.mono (by omega)))
  clear nb
  refine (eq_WritesResult _ _ y w16 (unhide HK).reads (unhide HW).reads).mono ?_
  rintro e w17 ⟨rfl, hb⟩
  replace HA0 := hide ((unhide HA0).later hb)
  replace HW := hide ((unhide HW).later hb)
  replace YW := hide ((unhide YW).keep hb)
  replace YG := hide ((unhide YG).keep hb)
  replace HG := hide ((unhide HG).later hb)
  replace HK := hide ((unhide HK).later hb)
  replace YK := hide ((unhide YK).keep hb)
  have Zw17 : w16.heap.size ≤ w17.heap.size := hb.size
  replace HB := hide ((unhide HB).trans (hb.mono (by omega)))
  clear hb
  clear HK
  clear YK
  have l0YW := (unhide YW).at 0 _ rfl
  have l1YW := (unhide YW).at 1 _ rfl
  have ltYW : w2.heap.size < w17.heap.size := by omega
  have l0YG := (unhide YG).at 0 _ rfl
  have l1YG := (unhide YG).at 1 _ rfl
  have ltYG : w5.heap.size < w17.heap.size := by omega
  simp only [List.getElem_toArray, List.getElem_cons_zero, List.getElem_cons_succ] at l0YW l1YW l0YG l1YG
  go_wp2_with fail
  clear l0YW l1YW ltYW l0YG l1YG ltYG
  refine (held_WritesResult _ y 1 w17 (unhide HG).reads (by omega) (by have := unhide HC; omega)).mono ?_
  rintro e w18 ⟨rfl, hb⟩
  replace HA0 := hide ((unhide HA0).later hb)
  replace HW := hide ((unhide HW).later hb)
  replace YW := hide ((unhide YW).keep hb)
  replace YG := hide ((unhide YG).keep hb)
  replace HG := hide ((unhide HG).later hb)
  have Zw18 : w17.heap.size ≤ w18.heap.size := hb.size
  replace HB := hide ((unhide HB).trans (hb.mono (by omega)))
  clear hb
  have l0YW := (unhide YW).at 0 _ rfl
  have l1YW := (unhide YW).at 1 _ rfl
  have ltYW : w2.heap.size < w18.heap.size := by omega
  have l0YG := (unhide YG).at 0 _ rfl
  have l1YG := (unhide YG).at 1 _ rfl
  have ltYG : w5.heap.size < w18.heap.size := by omega
  simp only [List.getElem_toArray, List.getElem_cons_zero, List.getElem_cons_succ] at l0YW l1YW l0YG l1YG
  go_wp2_with fail
  clear l0YW l1YW ltYW l0YG l1YG ltYG
  go_ret
  exact ⟨rfl, unhide HB⟩


/- lawmany -/
set_option maxHeartbeats 400000 in
theorem lawmany_ReadLog_0 (ao0 : Option Addr) (n0 cp0 : Nat) (w : World) (hm : 1048576 < n0) :
    Calls Try.prog 4 #[.slice ao0 n0 cp0] w fun e w' => e = .returned (.bool true) ∧ Below w.heap.size w w' := by
  go_enter Try.func4, Try.ntmps4
  go_wp2
  all_goals go_ret
  all_goals exact ⟨rfl, by first | exact Below.refl _ _ | exact (Below.refl _ _).alloc (Nat.le_refl _) _⟩

end Go.Proofs.Ytipomhpimmnchaa

namespace Go.Proofs.Ytipomhpimmnchaa
open Go.RowKit

theorem grown_alloc {w w' : World} {o : Obj} {r : Option Nat} (h : (w.alloc o).grownBy w' r) : w.grownBy w' r := grown_trans (World.grownBy_alloc w o r) h

/-- At an operation of a plain region: 'append(s, q)', q laid into a block of its own first. -/
theorem wpList_append_int {w1 : World} {base : Nat} {v : Value} {n : Nat} {xs : List Value} (hown : w1.ownsRow base 2 1 v n xs) (q : Int) {ops : Array Oper} {rest : List Oper} {o : Oper} {a : Act} {Q : Exit → Act → World → Prop} (hgd : o.guard = none) (s x : Operand)
    (ho : o.op = .call { callee := .builtin .append, args := #[s, x], argTypes := #[24, 24] }) (hs : a.eval s = v) (hx : a.eval x = .slice (some ⟨w1.heap.size, 0, none⟩) 1 1)
    (hn : n ≤ 100000000) (hbase : base ≤ w1.heap.size)
    (h : ∀ g cap w', w'.ownsRow base 2 1 (.slice (some ⟨g, 0, none⟩) (n + 1) cap) (n + 1) (xs ++ [.int .i64 q]) → w1.grownBy w' v.ownBlock → Below base w1 w' → g < w'.heap.size → w1.heap.size < w'.heap.size → wpList Try.prog ops Q rest (a.put o.dst (.slice (some ⟨g, 0, none⟩) (n + 1) cap)) w') :
    wpList Try.prog ops Q (o :: rest) a (w1.alloc (.cells #[.int .i64 q] 2)) := by
  obtain ⟨i0, hi0, hz0, hz1, hz2⟩ := info_parts info2
  refine wpList_append_lies _ hgd s x 24 ho base 2 i0 _ 1 8 Try.underlying24 hi0 hz0 hz1 hz2 rfl (by omega) v n xs hs (hown.alloc _) ⟨w1.heap.size, 0, none⟩ 1 1 [.int .i64 q] hx rfl (World.news_of_block (cs := #[.int .i64 q]) (t := 2) (fr := (0, 0)) (heap_alloc_new w1 _)) (by simp [Value.oneCell']) (by omega) (by unfold maxLen; omega) (by omega) (by simp; omega) (w1.heap.size + 1) (by simp) ?_
  intro g cap w' h2 h3 _ h5
  have hg := grown_alloc h3
  have hsz := h3.size
  simp only [World.size_alloc] at hsz
  exact h g cap w' h2 hg ((Below.refl _ _).grown hg hbase (fun j hj => (hown.lt j hj).1)) h5 (by omega)

end Go.Proofs.Ytipomhpimmnchaa

namespace Go.Proofs.Ytipomhpimmnchaa
open Go.RowKit

theorem infoAppWrite : (Try.prog.info? 58).map (fun i => (i.zero, i.size, i.bytes)) = some (some (.agg #[.int .i64 0, .int .i64 0, .slice none 0 0, .int .i64 0, .int .i64 0]), 5, 56) := by kernel_rfl
theorem one_Write {w : World} {row : List Value} {x : DWrite} {bl : List Nat} (h : Lay.tWrite.lies w row x bl) : (∀ u ∈ row, u.oneCell' = true) ∧ row.length = 1 * 5 := by
  obtain ⟨_, _, _, rfl, -⟩ := lies_Write.1 h
  simp [Value.oneCell']

/-- At an operation of a plain region: the new one lies in a block of its own. -/
theorem wpList_append_Write {w1 : World} {base : Nat} {v : Value} {rows : List (List Value)} {xs : List DWrite} {bls : List (List Nat)} (hG : Grow Lay.tWrite w1 base 58 v rows xs bls) {row : List Value} {x : DWrite} {bl : List Nat} (hl : Lay.tWrite.lies w1 row x bl) (hbl : ∀ b ∈ bl, v.ownBlock ≠ some b) {ops : Array Oper} {rest : List Oper} {o : Oper} {a : Act} {Q : Exit → Act → World → Prop} (hgd : o.guard = none) (s y : Operand)
    (ho : o.op = .call { callee := .builtin .append, args := #[s, y], argTypes := #[28, 28] }) (hs : a.eval s = v) (hy : a.eval y = .slice (some ⟨w1.heap.size, 0, none⟩) 1 1) (hn : xs.length + 1 ≤ 100000000) (hbase : base ≤ w1.heap.size)
    (h : ∀ g cap w', Grow Lay.tWrite w' base 58 (.slice (some ⟨g, 0, none⟩) (xs.length + 1) cap) (rows ++ [row]) (xs ++ [x]) (bls ++ [bl]) → Below base w1 w' → Ext (fun q => v.ownBlock = some q) w1 w' → g < w'.heap.size → w1.heap.size ≤ w'.heap.size → (v.ownBlock = some g ∨ w1.heap.size ≤ g) → wpList Try.prog ops Q rest (a.put o.dst (.slice (some ⟨g, 0, none⟩) (xs.length + 1) cap)) w') :
    wpList Try.prog ops Q (o :: rest) a (w1.alloc (.cells row.toArray 58)) := by
  obtain ⟨i0, hi0, hz0, hz1, hz2⟩ := info_parts infoAppWrite
  obtain ⟨h1, hlen⟩ := one_Write hl
  refine wpList_append_lies _ hgd s y 28 ho base 58 i0 _ 5 56 Try.underlying28 hi0 hz0 hz1 hz2 rfl (by omega) v xs.length rows.flatten hs (hG.own.alloc _) ⟨w1.heap.size, 0, none⟩ 1 1 row hy hlen (World.news_of_block (cs := row.toArray) (t := 58) (fr := (0, 0)) (heap_alloc_new w1 _)) h1 (by omega) (by unfold maxLen; omega) (by omega) (by simp; omega) (w1.alloc (.cells row.toArray 58)).heap.size rfl ?_
  intro g cap w' h2 h3 h4 h5
  have hg := grown_alloc h3
  have hbw : Below base w1 w' := (Below.refl _ _).grown hg hbase (fun j hj => (hG.own.lt j hj).1)
  have hor : v.ownBlock = some g ∨ w1.heap.size ≤ g := by
    rcases h4 with h4 | h4
    · exact Or.inl h4
    · exact Or.inr (by rw [h4]; simp)
  exact h g cap w' (hG.snoc hl hbl h2 hg hor) hbw ⟨hbw.os, hbw.tape, hbw.output, hbw.size, fun k hk hn => hg.block k hk (fun e => hn e.symm)⟩ h5 hbw.size hor

/-- At a step of a region that draws its order. -/
theorem step_append_Write {w1 : World} {base : Nat} {v : Value} {rows : List (List Value)} {xs : List DWrite} {bls : List (List Nat)} (hG : Grow Lay.tWrite w1 base 58 v rows xs bls) {row : List Value} {x : DWrite} {bl : List Nat} (hl : Lay.tWrite.lies w1 row x bl) (hbl : ∀ b ∈ bl, v.ownBlock ≠ some b) {ops : Array Oper} {o : Oper} {a : Act} {K : Act → World → Prop} {Q : Exit → Act → World → Prop} {E : Prop} (hgd : o.guard = none) (s y : Operand)
    (ho : o.op = .call { callee := .builtin .append, args := #[s, y], argTypes := #[28, 28] }) (hs : a.eval s = v) (hy : a.eval y = .slice (some ⟨w1.heap.size, 0, none⟩) 1 1) (hn : xs.length + 1 ≤ 100000000) (hbase : base ≤ w1.heap.size)
    (h : ∀ g cap w', Grow Lay.tWrite w' base 58 (.slice (some ⟨g, 0, none⟩) (xs.length + 1) cap) (rows ++ [row]) (xs ++ [x]) (bls ++ [bl]) → Below base w1 w' → Ext (fun q => v.ownBlock = some q) w1 w' → g < w'.heap.size → w1.heap.size ≤ w'.heap.size → (v.ownBlock = some g ∨ w1.heap.size ≤ g) → K (a.put o.dst (.slice (some ⟨g, 0, none⟩) (xs.length + 1) cap)) w') :
    if Region.wanted o (yielded ops a.tmps) = true then Oper.wp Try.prog o a (w1.alloc (.cells row.toArray 58)) K Q else E := by
  obtain ⟨i0, hi0, hz0, hz1, hz2⟩ := info_parts infoAppWrite
  obtain ⟨h1, hlen⟩ := one_Write hl
  refine step_append_lies _ hgd s y 28 ho base 58 i0 _ 5 56 Try.underlying28 hi0 hz0 hz1 hz2 rfl (by omega) v xs.length rows.flatten hs (hG.own.alloc _) ⟨w1.heap.size, 0, none⟩ 1 1 row hy hlen (World.news_of_block (cs := row.toArray) (t := 58) (fr := (0, 0)) (heap_alloc_new w1 _)) h1 (by omega) (by unfold maxLen; omega) (by omega) (by simp; omega) (w1.alloc (.cells row.toArray 58)).heap.size rfl ?_
  intro g cap w' h2 h3 h4 h5
  have hg := grown_alloc h3
  have hbw : Below base w1 w' := (Below.refl _ _).grown hg hbase (fun j hj => (hG.own.lt j hj).1)
  have hor : v.ownBlock = some g ∨ w1.heap.size ≤ g := by
    rcases h4 with h4 | h4
    · exact Or.inl h4
    · exact Or.inr (by rw [h4]; simp)
  exact h g cap w' (hG.snoc hl hbl h2 hg hor) hbw ⟨hbw.os, hbw.tape, hbw.output, hbw.size, fun k hk hn => hg.block k hk (fun e => hn e.symm)⟩ h5 hbw.size hor

end Go.Proofs.Ytipomhpimmnchaa
