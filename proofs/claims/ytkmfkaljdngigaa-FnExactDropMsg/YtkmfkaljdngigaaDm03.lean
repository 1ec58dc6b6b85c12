/-
  Texts of this proof in one: EqMsg, EqMsgS, OwnMsg, LayMark, MaMsgS, LayNetResult, EqNetResult, OwnNetResult, MaNetResult, MkMsgS, MkNetResult, LawXDropMsg, LayIntResult, WrBox, InB, InC, Fault.
  Their conditions stand in their theorems.
-/
import Derived.Test.YtkmfkaljdngigaaChecked
import Derived.Test.YtkmfkaljdngigaaDm02
import Derived.Test.YtkmfkaljdngigaaDm01
import Derived.Deep.RegionHeld3
import Derived.BigQuiet
import Derived.Deep.QuietTactic
import Derived.WalkSmall

namespace Go.Proofs.Ytkmfkaljdngigaa
open Go.RowKit

set_option maxRecDepth 10000 in
set_option maxHeartbeats 1000000 in
theorem eq_Msg (cs cs2 : List Value) (x : DMsg) (w : World) (h : Lay.tMsg.Reads w cs x) (h2 : Lay.tMsg.Reads w cs2 x) :
    Calls Try.prog 12 #[.agg cs.toArray, .agg cs2.toArray] w fun e w' => e = .returned (.bool true) ∧ Below w.heap.size w w' := by
  obtain ⟨a7, d7, rfl, R5⟩ := open_Msg h
  obtain ⟨a7z, d7z, rfl, R5z⟩ := open_Msg h2
  clear h h2
  have e0 : (x.kind != x.kind) = false := by simp
  have e1 : (x.epoch != x.epoch) = false := by simp
  have e2 : (x.src != x.src) = false := by simp
  have e3 : (x.dst != x.dst) = false := by simp
  have e4 : (x.index != x.index) = false := by simp
  have e5 : (x.write.kind != x.write.kind) = false := by simp
  have e6 : (x.write.id != x.write.id) = false := by simp
  have e8 : (x.write.session != x.write.session) = false := by simp
  have e9 : (x.write.seq != x.write.seq) = false := by simp
  have HB0 : Below w.heap.size w ((w.alloc (.cells #[.int .i64 x.kind, .int .i64 x.epoch, .int .i64 x.src, .int .i64 x.dst, .int .i64 x.index, .int .i64 x.write.kind, .int .i64 x.write.id, .slice a7 x.write.vec.length d7, .int .i64 x.write.session, .int .i64 x.write.seq] 31)).alloc (.cells #[.int .i64 x.kind, .int .i64 x.epoch, .int .i64 x.src, .int .i64 x.dst, .int .i64 x.index, .int .i64 x.write.kind, .int .i64 x.write.id, .slice a7z x.write.vec.length d7z, .int .i64 x.write.session, .int .i64 x.write.seq] 31)) := ((Below.refl _ _).alloc (Nat.le_refl _) _).alloc (by simp) _
  have bA : Box w.heap.size #[.int .i64 x.kind, .int .i64 x.epoch, .int .i64 x.src, .int .i64 x.dst, .int .i64 x.index, .int .i64 x.write.kind, .int .i64 x.write.id, .slice a7 x.write.vec.length d7, .int .i64 x.write.session, .int .i64 x.write.seq] 31 ((w.alloc (.cells #[.int .i64 x.kind, .int .i64 x.epoch, .int .i64 x.src, .int .i64 x.dst, .int .i64 x.index, .int .i64 x.write.kind, .int .i64 x.write.id, .slice a7 x.write.vec.length d7, .int .i64 x.write.session, .int .i64 x.write.seq] 31)).alloc (.cells #[.int .i64 x.kind, .int .i64 x.epoch, .int .i64 x.src, .int .i64 x.dst, .int .i64 x.index, .int .i64 x.write.kind, .int .i64 x.write.id, .slice a7z x.write.vec.length d7z, .int .i64 x.write.session, .int .i64 x.write.seq] 31)) w.heap.size := (newBox (Nat.le_refl _)).grow _
  have bC : Box w.heap.size #[.int .i64 x.kind, .int .i64 x.epoch, .int .i64 x.src, .int .i64 x.dst, .int .i64 x.index, .int .i64 x.write.kind, .int .i64 x.write.id, .slice a7z x.write.vec.length d7z, .int .i64 x.write.session, .int .i64 x.write.seq] 31 ((w.alloc (.cells #[.int .i64 x.kind, .int .i64 x.epoch, .int .i64 x.src, .int .i64 x.dst, .int .i64 x.index, .int .i64 x.write.kind, .int .i64 x.write.id, .slice a7 x.write.vec.length d7, .int .i64 x.write.session, .int .i64 x.write.seq] 31)).alloc (.cells #[.int .i64 x.kind, .int .i64 x.epoch, .int .i64 x.src, .int .i64 x.dst, .int .i64 x.index, .int .i64 x.write.kind, .int .i64 x.write.id, .slice a7z x.write.vec.length d7z, .int .i64 x.write.session, .int .i64 x.write.seq] 31)) (w.heap.size + 1) := newBoxAt (by omega) (by simp)
  go_enter Try.func12, Try.ntmps12
  go_wp2_with fail
  generalize (w.alloc (.cells #[.int .i64 x.kind, .int .i64 x.epoch, .int .i64 x.src, .int .i64 x.dst, .int .i64 x.index, .int .i64 x.write.kind, .int .i64 x.write.id, .slice a7 x.write.vec.length d7, .int .i64 x.write.session, .int .i64 x.write.seq] 31)).alloc (.cells #[.int .i64 x.kind, .int .i64 x.epoch, .int .i64 x.src, .int .i64 x.dst, .int .i64 x.index, .int .i64 x.write.kind, .int .i64 x.write.id, .slice a7z x.write.vec.length d7z, .int .i64 x.write.session, .int .i64 x.write.seq] 31) = W0 at *
  replace R5 := R5.later HB0
  replace R5z := R5z.later HB0
  refine (eq_Write _ _ x.write _ R5 R5z).mono ?_
  rintro e w1 ⟨rfl, hb⟩
  replace bA := bA.keep hb
  replace bC := bC.keep hb
  replace HB0 := HB0.trans (hb.mono HB0.size)
  clear hb
  have HB := hide HB0
  have HA := hide bA
  have HC := hide bC
  clear HB0 bA bC
  go_wp2_with fail
  go_ret
  exact ⟨rfl, unhide HB⟩

end Go.Proofs.Ytkmfkaljdngigaa

namespace Go.Proofs.Ytkmfkaljdngigaa
open Go.RowKit

set_option maxRecDepth 100000 in
set_option maxHeartbeats 2000000 in
theorem eq_MsgS (v v2 : Value) (xs : List DMsg) (w : World) (h : (Lay.sl Lay.tMsg).Reads w [v] xs) (h2 : (Lay.sl Lay.tMsg).Reads w [v2] xs) :
    Calls Try.prog 17 #[v, v2] w fun e w' => e = .returned (.bool true) ∧ Below w.heap.size w w' := by
  have hbig := h.big
  obtain ⟨ao, cap, rfl⟩ := open_sl h
  obtain ⟨ao2, cap2, rfl⟩ := open_sl h2
  by_cases hp : 0 < xs.length
  · obtain ⟨b, off, rfl, hbl⟩ := Lay.sl_addr h hp
    obtain ⟨b2, off2, rfl, hbl2⟩ := Lay.sl_addr h2 hp
    have H := hide h
    have H2 := hide h2
    clear h h2
    go_enter Try.func17, Try.ntmps17
    go_wp2_with fail
    go_loopw [5] (fun i wr => ∃ k : Nat, k ≤ xs.length ∧ i = .int .i64 k ∧ Below w.heap.size w wr) (fun i _ => xs.length - (intOf i).toNat)
    case atStart => exact ⟨0, Nat.zero_le _, rfl, Below.refl _ _⟩
    case round =>
      obtain ⟨k, hk, rfl, hB⟩ := hrel
      by_cases hlt : k < xs.length
      · obtain ⟨row, hc, hr⟩ := Lay.row_at (unhide H) hlt
        obtain ⟨rowz, hcz, hrz⟩ := Lay.row_at (unhide H2) hlt
        have hr2 := hr
        obtain ⟨a7, d7, rfl, -⟩ := open_Msg hr2
        have hrz2 := hrz
        obtain ⟨a7z, d7z, rfl, -⟩ := open_Msg hrz2
        have c0 : w.cell? ⟨b, off + k * 10, none⟩ = some (.int .i64 (xs[k]).kind) := ((Below.refl w.heap.size w).cell (p := ⟨b, off + k * 10, none⟩) hbl).trans (hc 0 (by decide))
        have c1 : w.cell? ⟨b, off + k * 10 + 1, none⟩ = some (.int .i64 (xs[k]).epoch) := ((Below.refl w.heap.size w).cell (p := ⟨b, off + k * 10 + 1, none⟩) hbl).trans (hc 1 (by decide))
        have c2 : w.cell? ⟨b, off + k * 10 + 2, none⟩ = some (.int .i64 (xs[k]).src) := ((Below.refl w.heap.size w).cell (p := ⟨b, off + k * 10 + 2, none⟩) hbl).trans (hc 2 (by decide))
        have c3 : w.cell? ⟨b, off + k * 10 + 3, none⟩ = some (.int .i64 (xs[k]).dst) := ((Below.refl w.heap.size w).cell (p := ⟨b, off + k * 10 + 3, none⟩) hbl).trans (hc 3 (by decide))
        have c4 : w.cell? ⟨b, off + k * 10 + 4, none⟩ = some (.int .i64 (xs[k]).index) := ((Below.refl w.heap.size w).cell (p := ⟨b, off + k * 10 + 4, none⟩) hbl).trans (hc 4 (by decide))
        have c5 : w.cell? ⟨b, off + k * 10 + 5, none⟩ = some (.int .i64 (xs[k]).write.kind) := ((Below.refl w.heap.size w).cell (p := ⟨b, off + k * 10 + 5, none⟩) hbl).trans (hc 5 (by decide))
        have c6 : w.cell? ⟨b, off + k * 10 + 6, none⟩ = some (.int .i64 (xs[k]).write.id) := ((Below.refl w.heap.size w).cell (p := ⟨b, off + k * 10 + 6, none⟩) hbl).trans (hc 6 (by decide))
        have c7 : w.cell? ⟨b, off + k * 10 + 7, none⟩ = some (.slice a7 (xs[k]).write.vec.length d7) := ((Below.refl w.heap.size w).cell (p := ⟨b, off + k * 10 + 7, none⟩) hbl).trans (hc 7 (by decide))
        have c8 : w.cell? ⟨b, off + k * 10 + 8, none⟩ = some (.int .i64 (xs[k]).write.session) := ((Below.refl w.heap.size w).cell (p := ⟨b, off + k * 10 + 8, none⟩) hbl).trans (hc 8 (by decide))
        have c9 : w.cell? ⟨b, off + k * 10 + 9, none⟩ = some (.int .i64 (xs[k]).write.seq) := ((Below.refl w.heap.size w).cell (p := ⟨b, off + k * 10 + 9, none⟩) hbl).trans (hc 9 (by decide))
        have c0z : w.cell? ⟨b2, off2 + k * 10, none⟩ = some (.int .i64 (xs[k]).kind) := ((Below.refl w.heap.size w).cell (p := ⟨b2, off2 + k * 10, none⟩) hbl2).trans (hcz 0 (by decide))
        have c1z : w.cell? ⟨b2, off2 + k * 10 + 1, none⟩ = some (.int .i64 (xs[k]).epoch) := ((Below.refl w.heap.size w).cell (p := ⟨b2, off2 + k * 10 + 1, none⟩) hbl2).trans (hcz 1 (by decide))
        have c2z : w.cell? ⟨b2, off2 + k * 10 + 2, none⟩ = some (.int .i64 (xs[k]).src) := ((Below.refl w.heap.size w).cell (p := ⟨b2, off2 + k * 10 + 2, none⟩) hbl2).trans (hcz 2 (by decide))
        have c3z : w.cell? ⟨b2, off2 + k * 10 + 3, none⟩ = some (.int .i64 (xs[k]).dst) := ((Below.refl w.heap.size w).cell (p := ⟨b2, off2 + k * 10 + 3, none⟩) hbl2).trans (hcz 3 (by decide))
        have c4z : w.cell? ⟨b2, off2 + k * 10 + 4, none⟩ = some (.int .i64 (xs[k]).index) := ((Below.refl w.heap.size w).cell (p := ⟨b2, off2 + k * 10 + 4, none⟩) hbl2).trans (hcz 4 (by decide))
        have c5z : w.cell? ⟨b2, off2 + k * 10 + 5, none⟩ = some (.int .i64 (xs[k]).write.kind) := ((Below.refl w.heap.size w).cell (p := ⟨b2, off2 + k * 10 + 5, none⟩) hbl2).trans (hcz 5 (by decide))
        have c6z : w.cell? ⟨b2, off2 + k * 10 + 6, none⟩ = some (.int .i64 (xs[k]).write.id) := ((Below.refl w.heap.size w).cell (p := ⟨b2, off2 + k * 10 + 6, none⟩) hbl2).trans (hcz 6 (by decide))
        have c7z : w.cell? ⟨b2, off2 + k * 10 + 7, none⟩ = some (.slice a7z (xs[k]).write.vec.length d7z) := ((Below.refl w.heap.size w).cell (p := ⟨b2, off2 + k * 10 + 7, none⟩) hbl2).trans (hcz 7 (by decide))
        have c8z : w.cell? ⟨b2, off2 + k * 10 + 8, none⟩ = some (.int .i64 (xs[k]).write.session) := ((Below.refl w.heap.size w).cell (p := ⟨b2, off2 + k * 10 + 8, none⟩) hbl2).trans (hcz 8 (by decide))
        have c9z : w.cell? ⟨b2, off2 + k * 10 + 9, none⟩ = some (.int .i64 (xs[k]).write.seq) := ((Below.refl w.heap.size w).cell (p := ⟨b2, off2 + k * 10 + 9, none⟩) hbl2).trans (hcz 9 (by decide))
        clear hc hcz
        have HR := hide hr
        have HRZ := hide hrz
        clear hr hrz
        have HB := hide hB
        clear hB
        generalize hxk : xs[k] = x at *
        clear hxk
        have i1 : (0 : Int) ≤ (k : Int) := by omega
        have i2 : (k : Int) < (xs.length : Int) := by omega
        go_wp2_with fail
        refine wp_region_noPanic ?_
        refine wp_region_held_drew (S := fun w' => Below w.heap.size w w') (by kernel_rfl) (unhide HB).drew (fun hHeld => ?_)
        generalize wr.drew = wD at hHeld ⊢
        refine wpAnyH_take (i := 0) (oi := { dst := some 17, op := Go.Op.move (Go.Operand.tmp 0), type := 38, pos := "exact.go:1135", after := #[], guard := none }) (v := ?v0) rfl (by kernel_rfl) (by kernel_rfl) (by kernel_rfl) (fun _ _ _ h => h) (Or.inl ⟨by rfl, ?h0⟩) hHeld ?r0
        case h0 =>
          intro wS hSw
          (try dsimp only at hSw)
          go_simp
          try with_reducible rfl
        case r0 =>
        simp only [Act.put, List.setIfInBounds_toArray, List.set_cons_zero, List.set_cons_succ]
        refine wpAnyH_take (i := 1) (oi := { dst := some 18, op := Go.Op.move (Go.Operand.tmp 5), type := 3, pos := "exact.go:1135", after := #[], guard := none }) (v := ?v1) rfl (by kernel_rfl) (by kernel_rfl) (by kernel_rfl) (fun _ _ _ h => h) (Or.inl ⟨by rfl, ?h1⟩) hHeld ?r1
        case h1 =>
          intro wS hSw
          (try dsimp only at hSw)
          go_simp
          try with_reducible rfl
        case r1 =>
        simp only [Act.put, List.setIfInBounds_toArray, List.set_cons_zero, List.set_cons_succ]
        refine wpAnyH_take (i := 2) (oi := { dst := some 19, op := Go.Op.indexAddr 38 (Go.Operand.tmp 17) (Go.Operand.tmp 18), type := 0, pos := "exact.go:1135", after := #[{ on := 0, ground := Go.Ground.data }, { on := 1, ground := Go.Ground.data }], guard := none }) (v := ?v2) rfl (by kernel_rfl) (by kernel_rfl) (by kernel_rfl) (fun _ _ _ h => h) (Or.inl ⟨by rfl, ?h2⟩) hHeld ?r2
        case h2 =>
          intro wS hSw
          (try dsimp only at hSw)
          go_simp
          try with_reducible rfl
        case r2 =>
        simp only [Act.put, List.setIfInBounds_toArray, List.set_cons_zero, List.set_cons_succ]
        refine wpAnyH_take (i := 3) (oi := { dst := some 20, op := Go.Op.load 31 (Go.Operand.tmp 19), type := 31, pos := "exact.go:1135", after := #[{ on := 2, ground := Go.Ground.data }], guard := none }) (v := ?v3) rfl (by kernel_rfl) (by kernel_rfl) (by kernel_rfl) (fun _ _ _ h => h) (Or.inl ⟨by rfl, ?h3⟩) hHeld ?r3
        case h3 =>
          intro wS hSw
          have y0 := (hSw.cell (p := ⟨b, off + k * 10, none⟩) hbl).trans c0
          have y1 := (hSw.cell (p := ⟨b, off + k * 10 + 1, none⟩) hbl).trans c1
          have y2 := (hSw.cell (p := ⟨b, off + k * 10 + 2, none⟩) hbl).trans c2
          have y3 := (hSw.cell (p := ⟨b, off + k * 10 + 3, none⟩) hbl).trans c3
          have y4 := (hSw.cell (p := ⟨b, off + k * 10 + 4, none⟩) hbl).trans c4
          have y5 := (hSw.cell (p := ⟨b, off + k * 10 + 5, none⟩) hbl).trans c5
          have y6 := (hSw.cell (p := ⟨b, off + k * 10 + 6, none⟩) hbl).trans c6
          have y7 := (hSw.cell (p := ⟨b, off + k * 10 + 7, none⟩) hbl).trans c7
          have y8 := (hSw.cell (p := ⟨b, off + k * 10 + 8, none⟩) hbl).trans c8
          have y9 := (hSw.cell (p := ⟨b, off + k * 10 + 9, none⟩) hbl).trans c9
          clear hSw
          (try dsimp only at hSw)
          go_simp
          try with_reducible rfl
        case r3 =>
        simp only [Act.put, List.setIfInBounds_toArray, List.set_cons_zero, List.set_cons_succ]
        refine wpAnyH_take (i := 4) (oi := { dst := some 21, op := Go.Op.move (Go.Operand.tmp 1), type := 38, pos := "exact.go:1135", after := #[], guard := none }) (v := ?v4) rfl (by kernel_rfl) (by kernel_rfl) (by kernel_rfl) (fun _ _ _ h => h) (Or.inl ⟨by rfl, ?h4⟩) hHeld ?r4
        case h4 =>
          intro wS hSw
          (try dsimp only at hSw)
          go_simp
          try with_reducible rfl
        case r4 =>
        simp only [Act.put, List.setIfInBounds_toArray, List.set_cons_zero, List.set_cons_succ]
        refine wpAnyH_take (i := 5) (oi := { dst := some 22, op := Go.Op.move (Go.Operand.tmp 5), type := 3, pos := "exact.go:1135", after := #[], guard := none }) (v := ?v5) rfl (by kernel_rfl) (by kernel_rfl) (by kernel_rfl) (fun _ _ _ h => h) (Or.inl ⟨by rfl, ?h5⟩) hHeld ?r5
        case h5 =>
          intro wS hSw
          (try dsimp only at hSw)
          go_simp
          try with_reducible rfl
        case r5 =>
        simp only [Act.put, List.setIfInBounds_toArray, List.set_cons_zero, List.set_cons_succ]
        refine wpAnyH_take (i := 6) (oi := { dst := some 23, op := Go.Op.indexAddr 38 (Go.Operand.tmp 21) (Go.Operand.tmp 22), type := 0, pos := "exact.go:1135", after := #[{ on := 4, ground := Go.Ground.data }, { on := 5, ground := Go.Ground.data }], guard := none }) (v := ?v6) rfl (by kernel_rfl) (by kernel_rfl) (by kernel_rfl) (fun _ _ _ h => h) (Or.inl ⟨by rfl, ?h6⟩) hHeld ?r6
        case h6 =>
          intro wS hSw
          (try dsimp only at hSw)
          go_simp
          try with_reducible rfl
        case r6 =>
        simp only [Act.put, List.setIfInBounds_toArray, List.set_cons_zero, List.set_cons_succ]
        refine wpAnyH_take (i := 7) (oi := { dst := some 24, op := Go.Op.load 31 (Go.Operand.tmp 23), type := 31, pos := "exact.go:1135", after := #[{ on := 6, ground := Go.Ground.data }], guard := none }) (v := ?v7) rfl (by kernel_rfl) (by kernel_rfl) (by kernel_rfl) (fun _ _ _ h => h) (Or.inl ⟨by rfl, ?h7⟩) hHeld ?r7
        case h7 =>
          intro wS hSw
          have y0z := (hSw.cell (p := ⟨b2, off2 + k * 10, none⟩) hbl2).trans c0z
          have y1z := (hSw.cell (p := ⟨b2, off2 + k * 10 + 1, none⟩) hbl2).trans c1z
          have y2z := (hSw.cell (p := ⟨b2, off2 + k * 10 + 2, none⟩) hbl2).trans c2z
          have y3z := (hSw.cell (p := ⟨b2, off2 + k * 10 + 3, none⟩) hbl2).trans c3z
          have y4z := (hSw.cell (p := ⟨b2, off2 + k * 10 + 4, none⟩) hbl2).trans c4z
          have y5z := (hSw.cell (p := ⟨b2, off2 + k * 10 + 5, none⟩) hbl2).trans c5z
          have y6z := (hSw.cell (p := ⟨b2, off2 + k * 10 + 6, none⟩) hbl2).trans c6z
          have y7z := (hSw.cell (p := ⟨b2, off2 + k * 10 + 7, none⟩) hbl2).trans c7z
          have y8z := (hSw.cell (p := ⟨b2, off2 + k * 10 + 8, none⟩) hbl2).trans c8z
          have y9z := (hSw.cell (p := ⟨b2, off2 + k * 10 + 9, none⟩) hbl2).trans c9z
          clear hSw
          (try dsimp only at hSw)
          go_simp
          try with_reducible rfl
        case r7 =>
        simp only [Act.put, List.setIfInBounds_toArray, List.set_cons_zero, List.set_cons_succ]
        refine wpAnyH_ready (rs := [8]) (by kernel_rfl) (by simp) ?_
        refine AllReadyH.cons (o := { dst := some 25, op := Go.Op.call { callee := Go.Callee.value (Go.Operand.func 12), args := #[Go.Operand.tmp 20, Go.Operand.tmp 24], argTypes := #[31, 31] }, type := 4, pos := "exact.go:1135", after := #[{ on := 3, ground := Go.Ground.data }, { on := 7, ground := Go.Ground.data }], guard := none }) rfl (fun K hK => ?_) AllReadyH.nil
        go_simp
        go_at_call 12
        refine (eq_Msg _ _ x _ ((unhide HR).later hHeld) ((unhide HRZ).later hHeld)).mono ?_
        rintro e w3 ⟨rfl, hbw⟩
        try go_wp2_with fail
        refine hK.out _ _ (hHeld.trans (hbw.mono hHeld.size)) (fun hHeld => ?_)
        clear hK K
        try simp only [Act.put, List.setIfInBounds_toArray, List.set_cons_zero, List.set_cons_succ]
        refine wpAnyH_take (i := 9) (oi := { dst := some 26, op := Go.Op.unOp Go.UnOp.not 4 (Go.Operand.tmp 25), type := 4, pos := "exact.go:1135", after := #[{ on := 8, ground := Go.Ground.data }], guard := none }) (v := ?v9) rfl (by kernel_rfl) (by kernel_rfl) (by kernel_rfl) (fun _ _ _ h => h) (Or.inl ⟨by rfl, ?h9⟩) hHeld ?r9
        case h9 =>
          intro wS hSw
          (try dsimp only at hSw)
          go_simp
          try with_reducible rfl
        case r9 =>
        simp only [Act.put, List.setIfInBounds_toArray, List.set_cons_zero, List.set_cons_succ]
        refine wpAnyH_done (by kernel_rfl) ?_ _
        refine NoPanic.normal ?_
        have HB3 := hide hHeld
        clear hHeld c0 c0z c1 c1z c2 c2z c3 c3z c4 c4z c5 c5z c6 c6z c7 c7z c8 c8z c9 c9z HB
        go_wp2_with fail
        go_roundw
        case rel => exact ⟨k + 1, by omega, by go_num, unhide HB3⟩
        case measure => simp [intOf]; omega
      · have HB := hide hB
        clear hB
        go_wp2_with fail
        go_ret
        exact ⟨rfl, unhide HB⟩
  · obtain rfl : xs = [] := List.eq_nil_of_length_eq_zero (by omega)
    clear h h2 hp
    simp only [List.length_nil] at *
    go_enter Try.func17, Try.ntmps17
    go_wp2_with fail
    refine wp_loop_rounds 1 ?_
    rw [rounds_succ]
    go_wp2_with fail
    go_ret
    exact ⟨rfl, Below.refl _ _⟩

end Go.Proofs.Ytkmfkaljdngigaa

namespace Go.Proofs.Ytkmfkaljdngigaa
open Go.RowKit

theorem vcnt_Msg (x : DMsg) : Lay.tMsg.vcnt x = Lay.tWrite.vcnt x.write := by
  show 0 + (0 + (0 + (0 + (0 + (Lay.tWrite.vcnt x.write))))) = Lay.tWrite.vcnt x.write
  omega
theorem mkv_Msg (k : Int) (x : DMsg) : Lay.tMsg.mkv k x = ⟨x.kind, x.epoch, x.src, x.dst, x.index, Lay.tWrite.mkv (k) x.write⟩ := by
  simp [Lay.tMsg, Lay.via, Lay.pair, Lay.int]
theorem own_Msg {w : World} {cs : List Value} {x : DMsg} {bl : List Nat} (h : Lay.tMsg.Own w cs x bl) : ∃ (a7 : Option Addr) (d7 : Nat) (g5 : List Nat), cs = [.int .i64 x.kind, .int .i64 x.epoch, .int .i64 x.src, .int .i64 x.dst, .int .i64 x.index, .int .i64 x.write.kind, .int .i64 x.write.id, .slice a7 x.write.vec.length d7, .int .i64 x.write.session, .int .i64 x.write.seq] ∧ bl = g5 ∧ Lay.tWrite.Own w [.int .i64 x.write.kind, .int .i64 x.write.id, .slice a7 x.write.vec.length d7, .int .i64 x.write.session, .int .i64 x.write.seq] x.write g5 ∧ (Lit.int .i64 x.kind).wf = true ∧ (Lit.int .i64 x.epoch).wf = true ∧ (Lit.int .i64 x.src).wf = true ∧ (Lit.int .i64 x.dst).wf = true ∧ (Lit.int .i64 x.index).wf = true := by
  obtain ⟨hl, hn, hf⟩ := h
  obtain ⟨a7, d7, b7, rfl, hbl, w0, w1, w2, w3, w4, w5, w6, l7, w8, w9⟩ := lies_Msg.1 hl
  rw [hbl] at hn hf
  exact ⟨a7, d7, b7, rfl, hbl, ⟨lies_Write.2 ⟨a7, d7, b7, rfl, rfl, w5, w6, l7, w8, w9⟩, hn, hf⟩, w0, w1, w2, w3, w4⟩
theorem mkOwn_Msg {w : World} {x : DMsg} {c5 : List Value} {g5 : List Nat} (O5 : Lay.tWrite.Own w c5 x.write g5) (v0 : (Lit.int .i64 x.kind).wf = true) (v1 : (Lit.int .i64 x.epoch).wf = true) (v2 : (Lit.int .i64 x.src).wf = true) (v3 : (Lit.int .i64 x.dst).wf = true) (v4 : (Lit.int .i64 x.index).wf = true) (hn : (g5).Nodup) : Lay.tMsg.Own w ([.int .i64 x.kind] ++ ([.int .i64 x.epoch] ++ ([.int .i64 x.src] ++ ([.int .i64 x.dst] ++ ([.int .i64 x.index] ++ c5))))) x (g5) := by
  refine ⟨⟨[.int .i64 x.kind], [.int .i64 x.epoch] ++ ([.int .i64 x.src] ++ ([.int .i64 x.dst] ++ ([.int .i64 x.index] ++ c5))), [], [] ++ ([] ++ ([] ++ ([] ++ g5))), rfl, by simp, ⟨rfl, v0, rfl⟩, ⟨[.int .i64 x.epoch], [.int .i64 x.src] ++ ([.int .i64 x.dst] ++ ([.int .i64 x.index] ++ c5)), [], [] ++ ([] ++ ([] ++ g5)), rfl, rfl, ⟨rfl, v1, rfl⟩, ⟨[.int .i64 x.src], [.int .i64 x.dst] ++ ([.int .i64 x.index] ++ c5), [], [] ++ ([] ++ g5), rfl, rfl, ⟨rfl, v2, rfl⟩, ⟨[.int .i64 x.dst], [.int .i64 x.index] ++ c5, [], [] ++ g5, rfl, rfl, ⟨rfl, v3, rfl⟩, ⟨[.int .i64 x.index], c5, [], g5, rfl, rfl, ⟨rfl, v4, rfl⟩, O5.1⟩⟩⟩⟩⟩, hn, ?_⟩
  intro b hb o
  exact O5.2.2 b hb o

end Go.Proofs.Ytkmfkaljdngigaa

namespace Go.Proofs.Ytkmfkaljdngigaa
open Go.RowKit

theorem cnt_ints (zs : List Int) : (Lay.sl Lay.int).cnt zs = zs.length := by
  show cntAll (fun _ => 1) zs = zs.length
  induction zs with
  | nil => rfl
  | cons z zs ih => simp [cntAll, ih]; omega
theorem vcnt_ints (zs : List Int) : (Lay.sl Lay.int).vcnt zs = zs.length := cnt_ints zs
theorem mkAll_len {α : Type} (cnt : α → Nat) (mk : Int → α → α) (k : Int) (xs : List α) : (mkAll cnt mk k xs).length = xs.length := by
  induction xs generalizing k with
  | nil => rfl
  | cons x xs ih => simp [mkAll, ih]
theorem mk_ints_at (k : Int) (zs : List Int) (j : Nat) (h : j < zs.length) : ((Lay.sl Lay.int).mkv k zs).getD j 0 = k + j := by
  show (mkAll (fun _ => 1) (fun k _ => k) k zs).getD j 0 = k + j
  induction zs generalizing k j with
  | nil => simp at h
  | cons z zs ih =>
    match j with
    | 0 => simp [mkAll]
    | j + 1 =>
      have := ih (k + 1) j (by simpa using h)
      simp only [mkAll, List.getD_cons_succ]
      rw [show ((1 : Nat) : Int) = 1 from rfl, this]
      omega
theorem mk_ints_len (k : Int) (zs : List Int) : ((Lay.sl Lay.int).mkv k zs).length = zs.length := mkAll_len _ _ _ _
theorem mk_ints_wf (k : Int) (zs : List Int) (hk : 0 ≤ k) (hk2 : k + zs.length ≤ 1000000000) : ∀ z ∈ (Lay.sl Lay.int).mkv k zs, (Lit.int .i64 z).wf = true := by
  intro z hz
  obtain ⟨j, hj, rfl⟩ := List.mem_iff_getElem.1 hz
  have hj' := hj
  rw [mk_ints_len] at hj'
  have := mk_ints_at k zs j hj'
  have e : ((Lay.sl Lay.int).mkv k zs)[j] = k + j := by simpa [List.getD, hj] using this
  rw [e]
  exact wf_of_bd (by omega)

set_option maxHeartbeats 400000 in
theorem markI_pos (b off cap : Nat) (zs : List Int) (k : Int) (w : World) (hk : 0 ≤ k) (hk2 : k + zs.length ≤ 1000000000) (hc : ∀ j, j < zs.length → w.cell? ⟨b, off + j, none⟩ = some (.int .i64 (zs.getD j 0)))
    (hf : ∀ o, w.frozen? ⟨b, o, none⟩ = false) :
    Calls Try.prog 44 #[.slice (some ⟨b, off, none⟩) zs.length cap, .int .i64 k] w fun e w' => e = .returned (.int .i64 (k + zs.length)) ∧
      (∀ j, j < zs.length → w'.cell? ⟨b, off + j, none⟩ = some (.int .i64 (k + j))) ∧ (∀ o, w'.frozen? ⟨b, o, none⟩ = false) ∧ (∀ o, (o < off ∨ off + zs.length ≤ o) → w'.cell? ⟨b, o, none⟩ = w.cell? ⟨b, o, none⟩) ∧ Ext (fun q => q = b) w w' := by
  go_enter Try.func44, Try.ntmps44
  go_wp2
  go_loopw [1, 5] (fun kk i wr => ∃ j : Nat, j ≤ zs.length ∧ i = .int .i64 j ∧ kk = .int .i64 (k + j) ∧ (∀ m, m < j → wr.cell? ⟨b, off + m, none⟩ = some (.int .i64 (k + m))) ∧ (∀ o, wr.frozen? ⟨b, o, none⟩ = false) ∧ (∀ o, (o < off ∨ off + j ≤ o) → wr.cell? ⟨b, o, none⟩ = w.cell? ⟨b, o, none⟩) ∧ Ext (fun q => q = b) w wr)
    (fun _ i _ => zs.length - (intOf i).toNat)
  case atStart => exact ⟨0, Nat.zero_le _, rfl, by simp, fun m hm => by omega, hf, fun _ _ => rfl, Ext.refl _ _⟩
  case round =>
    obtain ⟨j, hj, rfl, rfl, hm, hfz, ho, hx⟩ := hrel
    by_cases hlt : j < zs.length
    · have hcd : wr.cell? ⟨b, off + j, none⟩ = some (.int .i64 (zs.getD j 0)) := (ho (off + j) (by omega)).trans (hc j hlt)
      have hfj := hfz (off + j)
      have HM : Hid (∀ m, m < j + 1 → (wr.setCell ⟨b, off + j, none⟩ (.int .i64 (k + j))).cell? ⟨b, off + m, none⟩ = some (.int .i64 (k + m))) := by
        intro m hm1
        by_cases e : m = j
        · subst e
          exact World.cell?_setCell_same _ _ _ hcd
        · rw [World.cell?_setCell_other _ _ _ _ (fun q => by have := congrArg Addr.off q; simp only at this; omega)]
          exact hm m (by omega)
      have HF : Hid (∀ o, (wr.setCell ⟨b, off + j, none⟩ (.int .i64 (k + j))).frozen? ⟨b, o, none⟩ = false) := fun o => by simpa using hfz o
      have HO : Hid (∀ o, (o < off ∨ off + (j + 1) ≤ o) → (wr.setCell ⟨b, off + j, none⟩ (.int .i64 (k + j))).cell? ⟨b, o, none⟩ = w.cell? ⟨b, o, none⟩) := by
        intro o hoo
        rw [World.cell?_setCell_other _ _ _ _ (fun q => by have := congrArg Addr.off q; simp only at this; omega)]
        exact ho o (by omega)
      have HX := hide (hx.setCell ⟨b, off + j, none⟩ (.int .i64 (k + j)) rfl)
      clear hm hfz ho hx hc hf
      go_wp2
      go_roundw
      case rel => exact ⟨j + 1, by omega, by go_num, by go_num, unhide HM, unhide HF, unhide HO, unhide HX⟩
      case measure => simp [intOf]; omega
    · obtain rfl : j = zs.length := by omega
      have HM := hide hm
      have HF := hide hfz
      have HO := hide ho
      have HX := hide hx
      clear hm hfz ho hx hc hf
      go_wp2
      go_ret
      exact ⟨rfl, unhide HM, unhide HF, unhide HO, unhide HX⟩

theorem markI_zero (ao : Option Addr) (cap : Nat) (k : Int) (w : World) :
    Calls Try.prog 44 #[.slice ao 0 cap, .int .i64 k] w fun e w' => e = .returned (.int .i64 k) ∧ w' = w := by
  go_enter Try.func44, Try.ntmps44
  go_wp2
  refine wp_loop_rounds 1 ?_
  rw [rounds_succ]
  go_wp2
  go_ret
  exact ⟨rfl, rfl⟩

/-- markInt64S. -/
theorem mark_Int64S (v : Value) (zs : List Int) (bl : List Nat) (k : Int) (w : World) (h : (Lay.sl Lay.int).Own w [v] zs bl) (hk : 0 ≤ k) (hk2 : k + (Lay.sl Lay.int).vcnt zs ≤ 1000000000) :
    Calls Try.prog 44 #[v, .int .i64 k] w fun e w' => e = .returned (.int .i64 (k + (Lay.sl Lay.int).vcnt zs)) ∧ (Lay.sl Lay.int).Own w' [v] ((Lay.sl Lay.int).mkv k zs) bl ∧ Ext (fun q => q ∈ bl) w w' := by
  obtain ⟨hl, hn, hf⟩ := h
  rw [vcnt_ints] at hk2 ⊢
  rcases Lay.lies_ints.1 hl with ⟨ao, cap, rfl, hbig, hwf, ⟨rfl, rfl⟩ | ⟨b, off, rfl, hb, rfl, hc⟩⟩
  · refine (markI_zero ao cap k w).mono ?_
    rintro e w' ⟨rfl, rfl⟩
    exact ⟨by simp, ⟨hl, hn, hf⟩, Ext.refl _ _⟩
  · refine (markI_pos b off cap zs k w hk hk2 hc (hf b (by simp))).mono ?_
    rintro e w' ⟨rfl, hm, hfz, -, hx⟩
    refine ⟨rfl, ⟨Lay.lies_ints.2 ⟨_, cap, by rw [mk_ints_len], by rw [mk_ints_len]; exact hbig, mk_ints_wf k zs hk hk2, Or.inr ⟨b, off, rfl, Nat.lt_of_lt_of_le hb hx.size, rfl, fun j hj => ?_⟩⟩, hn, ?_⟩, hx.mono fun q _ e => by simp [e]⟩
    · rw [mk_ints_len] at hj
      rw [hm j hj, mk_ints_at k zs j hj]
    · intro b' hb' o
      obtain rfl : b' = b := by simpa using hb'
      exact hfz o

set_option maxHeartbeats 400000 in
theorem heldI_pos (b off cap n : Nat) (k : Int) (w : World) (hk : 0 ≤ k) (hk2 : k + n ≤ 1000000000) (hc : ∀ j, j < n → w.cell? ⟨b, off + j, none⟩ = some (.int .i64 (k + j))) :
    Calls Try.prog 75 #[.slice (some ⟨b, off, none⟩) n cap, .int .i64 k] w fun e w' => e = .returned (.int .i64 (k + n)) ∧ w' = w := by
  go_enter Try.func75, Try.ntmps75
  go_wp2
  go_loop [1, 5] (fun kk i => ∃ j : Nat, j ≤ n ∧ i = .int .i64 j ∧ kk = .int .i64 (k + j)) (fun _ i => n - (intOf i).toNat)
  case atStart => exact ⟨0, Nat.zero_le _, rfl, by simp⟩
  case round =>
    obtain ⟨j, hj, rfl, rfl⟩ := hrel
    by_cases hlt : j < n
    · have hcx := hc j hlt
      have hne : ((k + (j : Int)) != (k + (j : Int))) = false := by simp
      clear hc
      go_wp2
      go_round
      case rel => exact ⟨j + 1, by omega, by go_num, by go_num⟩
      case measure => simp [intOf]; omega
    · obtain rfl : j = n := by omega
      clear hc
      go_wp2
      go_ret
      exact ⟨rfl, rfl⟩
theorem heldI_zero (ao : Option Addr) (cap : Nat) (k : Int) (w : World) :
    Calls Try.prog 75 #[.slice ao 0 cap, .int .i64 k] w fun e w' => e = .returned (.int .i64 k) ∧ w' = w := by
  go_enter Try.func75, Try.ntmps75
  go_wp2
  refine wp_loop_rounds 1 ?_
  rw [rounds_succ]
  go_wp2
  go_ret
  exact ⟨rfl, rfl⟩
/-- heldInt64S. -/
theorem held_Int64S (v : Value) (zs : List Int) (k : Int) (w : World) (h : (Lay.sl Lay.int).Reads w [v] ((Lay.sl Lay.int).mkv k zs)) (hk : 0 ≤ k) (hk2 : k + (Lay.sl Lay.int).vcnt zs ≤ 1000000000) :
    Calls Try.prog 75 #[v, .int .i64 k] w fun e w' => e = .returned (.int .i64 (k + (Lay.sl Lay.int).vcnt zs)) ∧ Below w.heap.size w w' := by
  rw [vcnt_ints] at hk2 ⊢
  obtain ⟨ao, cap, rfl, hwf, hc⟩ := Lay.ints_reads h
  rw [mk_ints_len] at hc ⊢
  by_cases hp : 0 < zs.length
  · obtain ⟨b, off, rfl, hc1⟩ := hc hp
    refine (heldI_pos b off cap zs.length k w hk hk2 fun j hj => by rw [hc1 j hj, mk_ints_at k zs j hj]).mono ?_
    rintro e w' ⟨rfl, rfl⟩
    exact ⟨rfl, Below.refl _ _⟩
  · have e0 : zs.length = 0 := by omega
    rw [e0]
    refine (heldI_zero ao cap k w).mono ?_
    rintro e w' ⟨rfl, rfl⟩
    exact ⟨by simp, Below.refl _ _⟩

end Go.Proofs.Ytkmfkaljdngigaa

namespace Go.Proofs.Ytkmfkaljdngigaa
open Go.RowKit

theorem cnt_Msg (x : DMsg) : Lay.tMsg.cnt x = 9 + (Lay.sl Lay.int).vcnt x.write.vec := by
  show 1 + (1 + (1 + (1 + (1 + (1 + (1 + ((Lay.sl Lay.int).vcnt x.write.vec + (1 + (1))))))))) = 9 + (Lay.sl Lay.int).vcnt x.write.vec
  omega
theorem mkd_Msg (k : Int) (x : DMsg) : Lay.tMsg.mkd k x = ⟨k, k + 1, k + 1 + 1, k + 1 + 1 + 1, k + 1 + 1 + 1 + 1, ⟨k + 1 + 1 + 1 + 1 + 1, k + 1 + 1 + 1 + 1 + 1 + 1, (Lay.sl Lay.int).mkv (k + 1 + 1 + 1 + 1 + 1 + 1 + 1) x.write.vec, k + 1 + 1 + 1 + 1 + 1 + 1 + 1 + ((Lay.sl Lay.int).vcnt x.write.vec : Nat), k + 1 + 1 + 1 + 1 + 1 + 1 + 1 + ((Lay.sl Lay.int).vcnt x.write.vec : Nat) + 1⟩⟩ := rfl
theorem vcnt_MsgS (xs : List DMsg) : (Lay.sl Lay.tMsg).vcnt xs = cntAll Lay.tMsg.cnt xs := rfl
theorem mkv_MsgS (k : Int) (xs : List DMsg) : (Lay.sl Lay.tMsg).mkv k xs = mkAll Lay.tMsg.cnt Lay.tMsg.mkd k xs := rfl

set_option maxRecDepth 10000 in
set_option maxHeartbeats 2000000 in
theorem markMsg_pos (b off cap : Nat) (xs : List DMsg) (bl : List Nat) (k : Int) (w : World) (h : (Lay.sl Lay.tMsg).Own w [.slice (some ⟨b, off, none⟩) xs.length cap] xs bl) (hk : 0 ≤ k) (hk2 : k + (cntAll Lay.tMsg.cnt xs : Nat) ≤ 1000000000) :
    Calls Try.prog 21 #[.slice (some ⟨b, off, none⟩) xs.length cap, .int .i64 k] w fun e w' => e = .returned (.int .i64 (k + (cntAll Lay.tMsg.cnt xs : Nat))) ∧ (Lay.sl Lay.tMsg).Own w' [.slice (some ⟨b, off, none⟩) xs.length cap] (mkAll Lay.tMsg.cnt Lay.tMsg.mkd k xs) bl ∧ Ext (fun q => q ∈ bl) w w' := by
  have hbig := h.reads.big
  have H := hide h
  clear h
  go_enter Try.func21, Try.ntmps21
  go_wp2_with fail
  go_loopw [1, 5] (fun kk i wr => ∃ (j : Nat) (kj : Int), j ≤ xs.length ∧ i = .int .i64 j ∧ kj = k + (cntAll Lay.tMsg.cnt (xs.take j) : Nat) ∧ kk = .int .i64 kj ∧ (Lay.sl Lay.tMsg).Own wr [.slice (some ⟨b, off, none⟩) xs.length cap] (mkPre Lay.tMsg.cnt Lay.tMsg.mkd k xs j) bl ∧ Ext (fun q => q ∈ bl) w wr) (fun _ i _ => xs.length - (intOf i).toNat)
  case atStart => exact ⟨0, k, Nat.zero_le _, rfl, by simp [cntAll], rfl, by rw [mkPre_zero]; exact unhide H, Ext.refl _ _⟩
  case round =>
    obtain ⟨j, kj, hj, rfl, hkj, rfl, hO, hX⟩ := hrel
    clear H
    by_cases hlt : j < xs.length
    · have hj2 : j < (mkPre Lay.tMsg.cnt Lay.tMsg.mkd k xs j).length := by rw [mkPre_len _ _ _ _ _ hj]; exact hlt
      obtain ⟨row, blk, R, O, hbk, hin, hfin⟩ := Lay.own_upd hO hj2
      rw [mkPre_get _ _ _ _ _ hlt] at O
      have HT := hide (Lay.cntAll_take (f := Lay.tMsg.cnt) hlt)
      have hle := Lay.cntAll_take_le (f := Lay.tMsg.cnt) (xs := xs) (k := j + 1)
      rw [unhide HT] at hle
      have HM : Hid (∀ y, y = Lay.tMsg.mkd kj xs[j] → (mkPre Lay.tMsg.cnt Lay.tMsg.mkd k xs j).set j y = mkPre Lay.tMsg.cnt Lay.tMsg.mkd k xs (j + 1)) := fun y e => by rw [e, hkj]; exact mkPre_set _ _ _ _ _ hlt
      have HF := hide hfin
      have HX := hide hX
      have HI := hide hin
      clear hO hfin hX hin hj2
      generalize hx : xs[j] = x at *
      clear hx
      have hcn := cnt_Msg x
      have HD := hide (mkd_Msg kj x)
      have hb1 : 0 ≤ kj := by omega
      have hb2 : kj + (Lay.tMsg.cnt x : Int) ≤ 1000000000 := by omega
      have HK := hide hkj
      clear hkj hle
      have hnd := O.2.1
      obtain ⟨a7, d7, g7, rfl, hbl, OW, v0, v1, v2, v3, v4⟩ := own_Msg O
      obtain ⟨_, _, _, e9, hbl9, O7, v5, v6, v8, v9⟩ := own_Write OW
      simp only [List.cons.injEq, Value.slice.injEq, true_and, and_true] at e9
      obtain ⟨rfl, rfl⟩ := e9
      clear O OW
      subst hbl9
      subst hbl
      have HN := hide hnd
      clear hnd
      have l1 : b < wr.heap.size := R.lt
      have c0 : wr.cell? ⟨b, off + j * 10, none⟩ = some (.int .i64 x.kind) := R.at 0 _ rfl
      have f0 : wr.frozen? ⟨b, off + j * 10, none⟩ = false := R.soft _
      have c1 : wr.cell? ⟨b, off + j * 10 + 1, none⟩ = some (.int .i64 x.epoch) := R.at 1 _ rfl
      have f1 : wr.frozen? ⟨b, off + j * 10 + 1, none⟩ = false := R.soft _
      have c2 : wr.cell? ⟨b, off + j * 10 + 2, none⟩ = some (.int .i64 x.src) := R.at 2 _ rfl
      have f2 : wr.frozen? ⟨b, off + j * 10 + 2, none⟩ = false := R.soft _
      have c3 : wr.cell? ⟨b, off + j * 10 + 3, none⟩ = some (.int .i64 x.dst) := R.at 3 _ rfl
      have f3 : wr.frozen? ⟨b, off + j * 10 + 3, none⟩ = false := R.soft _
      have c4 : wr.cell? ⟨b, off + j * 10 + 4, none⟩ = some (.int .i64 x.index) := R.at 4 _ rfl
      have f4 : wr.frozen? ⟨b, off + j * 10 + 4, none⟩ = false := R.soft _
      have c5 : wr.cell? ⟨b, off + j * 10 + 5, none⟩ = some (.int .i64 x.write.kind) := R.at 5 _ rfl
      have f5 : wr.frozen? ⟨b, off + j * 10 + 5, none⟩ = false := R.soft _
      have c6 : wr.cell? ⟨b, off + j * 10 + 6, none⟩ = some (.int .i64 x.write.id) := R.at 6 _ rfl
      have f6 : wr.frozen? ⟨b, off + j * 10 + 6, none⟩ = false := R.soft _
      have c7 : wr.cell? ⟨b, off + j * 10 + 7, none⟩ = some (.slice a7 x.write.vec.length d7) := R.at 7 _ rfl
      have R0_ : RowAt wr (((((((wr.setCell ⟨b, off + j * 10, none⟩ (.int .i64 kj)).setCell ⟨b, off + j * 10 + 1, none⟩ (.int .i64 (kj + 1))).setCell ⟨b, off + j * 10 + 2, none⟩ (.int .i64 (kj + 1 + 1))).setCell ⟨b, off + j * 10 + 3, none⟩ (.int .i64 (kj + 1 + 1 + 1))).setCell ⟨b, off + j * 10 + 4, none⟩ (.int .i64 (kj + 1 + 1 + 1 + 1))).setCell ⟨b, off + j * 10 + 5, none⟩ (.int .i64 (kj + 1 + 1 + 1 + 1 + 1))).setCell ⟨b, off + j * 10 + 6, none⟩ (.int .i64 (kj + 1 + 1 + 1 + 1 + 1 + 1))) b (off + j * 10) 10 [.int .i64 kj, .int .i64 (kj + 1), .int .i64 (kj + 1 + 1), .int .i64 (kj + 1 + 1 + 1), .int .i64 (kj + 1 + 1 + 1 + 1), .int .i64 (kj + 1 + 1 + 1 + 1 + 1), .int .i64 (kj + 1 + 1 + 1 + 1 + 1 + 1), .slice a7 x.write.vec.length d7, .int .i64 x.write.session, .int .i64 x.write.seq] blk := (((((((R.set 0 (.int .i64 kj) (by decide)).set 1 (.int .i64 (kj + 1)) (by decide)).set 2 (.int .i64 (kj + 1 + 1)) (by decide)).set 3 (.int .i64 (kj + 1 + 1 + 1)) (by decide)).set 4 (.int .i64 (kj + 1 + 1 + 1 + 1)) (by decide)).set 5 (.int .i64 (kj + 1 + 1 + 1 + 1 + 1)) (by decide)).set 6 (.int .i64 (kj + 1 + 1 + 1 + 1 + 1 + 1)) (by decide))
      have E0_ : Ext (fun q => q = b) wr (((((((wr.setCell ⟨b, off + j * 10, none⟩ (.int .i64 kj)).setCell ⟨b, off + j * 10 + 1, none⟩ (.int .i64 (kj + 1))).setCell ⟨b, off + j * 10 + 2, none⟩ (.int .i64 (kj + 1 + 1))).setCell ⟨b, off + j * 10 + 3, none⟩ (.int .i64 (kj + 1 + 1 + 1))).setCell ⟨b, off + j * 10 + 4, none⟩ (.int .i64 (kj + 1 + 1 + 1 + 1))).setCell ⟨b, off + j * 10 + 5, none⟩ (.int .i64 (kj + 1 + 1 + 1 + 1 + 1))).setCell ⟨b, off + j * 10 + 6, none⟩ (.int .i64 (kj + 1 + 1 + 1 + 1 + 1 + 1))) := ((((((((Ext.refl (fun q => q = b) _).setCell ⟨b, off + j * 10, none⟩ (.int .i64 kj) rfl).setCell ⟨b, off + j * 10 + 1, none⟩ (.int .i64 (kj + 1)) rfl).setCell ⟨b, off + j * 10 + 2, none⟩ (.int .i64 (kj + 1 + 1)) rfl).setCell ⟨b, off + j * 10 + 3, none⟩ (.int .i64 (kj + 1 + 1 + 1)) rfl).setCell ⟨b, off + j * 10 + 4, none⟩ (.int .i64 (kj + 1 + 1 + 1 + 1)) rfl).setCell ⟨b, off + j * 10 + 5, none⟩ (.int .i64 (kj + 1 + 1 + 1 + 1 + 1)) rfl).setCell ⟨b, off + j * 10 + 6, none⟩ (.int .i64 (kj + 1 + 1 + 1 + 1 + 1 + 1)) rfl)
      have O7_ := O7.ext E0_ (fun c hc e => hbk (e ▸ hc))
      clear O7
      have O7 := O7_
      clear O7_
      clear R E0_
      have R := R0_
      clear R0_
      have HR := hide R
      clear R
      go_wp2_with fail
      refine (mark_Int64S _ x.write.vec blk (kj + 1 + 1 + 1 + 1 + 1 + 1 + 1) _ O7 (by omega) (by omega)).mono ?_
      rintro e w2 ⟨rfl, Q7, E2⟩
      have R := (unhide HR).call E2 (fun _ h => h) hbk
      clear E2 O7 HR c0 c1 c2 c3 c4 c5 c6 c7 f0 f1 f2 f3 f4 f5 f6
      clear l1
      have l1 : b < w2.heap.size := R.lt
      have c8 : w2.cell? ⟨b, off + j * 10 + 8, none⟩ = some (.int .i64 x.write.session) := R.at 8 _ rfl
      have f8 : w2.frozen? ⟨b, off + j * 10 + 8, none⟩ = false := R.soft _
      have c9 : w2.cell? ⟨b, off + j * 10 + 9, none⟩ = some (.int .i64 x.write.seq) := R.at 9 _ rfl
      have f9 : w2.frozen? ⟨b, off + j * 10 + 9, none⟩ = false := R.soft _
      have R1_ : RowAt wr ((w2.setCell ⟨b, off + j * 10 + 8, none⟩ (.int .i64 (kj + 1 + 1 + 1 + 1 + 1 + 1 + 1 + ((Lay.sl Lay.int).vcnt x.write.vec : Nat)))).setCell ⟨b, off + j * 10 + 9, none⟩ (.int .i64 (kj + 1 + 1 + 1 + 1 + 1 + 1 + 1 + ((Lay.sl Lay.int).vcnt x.write.vec : Nat) + 1))) b (off + j * 10) 10 [.int .i64 kj, .int .i64 (kj + 1), .int .i64 (kj + 1 + 1), .int .i64 (kj + 1 + 1 + 1), .int .i64 (kj + 1 + 1 + 1 + 1), .int .i64 (kj + 1 + 1 + 1 + 1 + 1), .int .i64 (kj + 1 + 1 + 1 + 1 + 1 + 1), .slice a7 x.write.vec.length d7, .int .i64 (kj + 1 + 1 + 1 + 1 + 1 + 1 + 1 + ((Lay.sl Lay.int).vcnt x.write.vec : Nat)), .int .i64 (kj + 1 + 1 + 1 + 1 + 1 + 1 + 1 + ((Lay.sl Lay.int).vcnt x.write.vec : Nat) + 1)] blk := ((R.set 8 (.int .i64 (kj + 1 + 1 + 1 + 1 + 1 + 1 + 1 + ((Lay.sl Lay.int).vcnt x.write.vec : Nat))) (by decide)).set 9 (.int .i64 (kj + 1 + 1 + 1 + 1 + 1 + 1 + 1 + ((Lay.sl Lay.int).vcnt x.write.vec : Nat) + 1)) (by decide))
      have E1_ : Ext (fun q => q = b) w2 ((w2.setCell ⟨b, off + j * 10 + 8, none⟩ (.int .i64 (kj + 1 + 1 + 1 + 1 + 1 + 1 + 1 + ((Lay.sl Lay.int).vcnt x.write.vec : Nat)))).setCell ⟨b, off + j * 10 + 9, none⟩ (.int .i64 (kj + 1 + 1 + 1 + 1 + 1 + 1 + 1 + ((Lay.sl Lay.int).vcnt x.write.vec : Nat) + 1))) := (((Ext.refl (fun q => q = b) _).setCell ⟨b, off + j * 10 + 8, none⟩ (.int .i64 (kj + 1 + 1 + 1 + 1 + 1 + 1 + 1 + ((Lay.sl Lay.int).vcnt x.write.vec : Nat))) rfl).setCell ⟨b, off + j * 10 + 9, none⟩ (.int .i64 (kj + 1 + 1 + 1 + 1 + 1 + 1 + 1 + ((Lay.sl Lay.int).vcnt x.write.vec : Nat) + 1)) rfl)
      have Q7_ := Q7.ext E1_ (fun c hc e => hbk (e ▸ hc))
      clear Q7
      have Q7 := hide Q7_
      clear Q7_
      clear R E1_
      have R := R1_
      clear R1_
      have HR := hide R
      clear R
      have HQ := hide (unhide Q7)
      clear Q7
      go_wp2_with fail
      go_roundw
      case rel =>
        refine ⟨j + 1, _, by omega, by go_num, ?_, rfl, ?_, ?_⟩
        · rw [unhide HT, hcn]
          have := unhide HK
          omega
        · rw [← unhide HM _ (unhide HD).symm]
          exact unhide HF _ _ _ (unhide HR) (mkOwn_Msg (x := ⟨kj, kj + 1, kj + 1 + 1, kj + 1 + 1 + 1, kj + 1 + 1 + 1 + 1, ⟨kj + 1 + 1 + 1 + 1 + 1, kj + 1 + 1 + 1 + 1 + 1 + 1, (Lay.sl Lay.int).mkv (kj + 1 + 1 + 1 + 1 + 1 + 1 + 1) x.write.vec, kj + 1 + 1 + 1 + 1 + 1 + 1 + 1 + ((Lay.sl Lay.int).vcnt x.write.vec : Nat), kj + 1 + 1 + 1 + 1 + 1 + 1 + 1 + ((Lay.sl Lay.int).vcnt x.write.vec : Nat) + 1⟩⟩) (mkOwn_Write (x := ⟨kj + 1 + 1 + 1 + 1 + 1, kj + 1 + 1 + 1 + 1 + 1 + 1, (Lay.sl Lay.int).mkv (kj + 1 + 1 + 1 + 1 + 1 + 1 + 1) x.write.vec, kj + 1 + 1 + 1 + 1 + 1 + 1 + 1 + ((Lay.sl Lay.int).vcnt x.write.vec : Nat), kj + 1 + 1 + 1 + 1 + 1 + 1 + 1 + ((Lay.sl Lay.int).vcnt x.write.vec : Nat) + 1⟩) (unhide HQ) (show (Lit.int .i64 (kj + 1 + 1 + 1 + 1 + 1)).wf = true from wf_of_bd (by omega)) (show (Lit.int .i64 (kj + 1 + 1 + 1 + 1 + 1 + 1)).wf = true from wf_of_bd (by omega)) (show (Lit.int .i64 (kj + 1 + 1 + 1 + 1 + 1 + 1 + 1 + ((Lay.sl Lay.int).vcnt x.write.vec : Nat))).wf = true from wf_of_bd (by omega)) (show (Lit.int .i64 (kj + 1 + 1 + 1 + 1 + 1 + 1 + 1 + ((Lay.sl Lay.int).vcnt x.write.vec : Nat) + 1)).wf = true from wf_of_bd (by omega)) (unhide HN)) (show (Lit.int .i64 (kj)).wf = true from wf_of_bd (by omega)) (show (Lit.int .i64 (kj + 1)).wf = true from wf_of_bd (by omega)) (show (Lit.int .i64 (kj + 1 + 1)).wf = true from wf_of_bd (by omega)) (show (Lit.int .i64 (kj + 1 + 1 + 1)).wf = true from wf_of_bd (by omega)) (show (Lit.int .i64 (kj + 1 + 1 + 1 + 1)).wf = true from wf_of_bd (by omega)) (unhide HN))
        · exact (unhide HX).trans ((unhide HR).ext.mono fun q _ hq => unhide HI q (by rcases hq with h | h; exact Or.inl h.symm; exact Or.inr h))
      case measure => simp [intOf]; omega
    · obtain rfl : j = xs.length := by omega
      rw [mkPre_all] at hO
      rw [List.take_length] at hkj
      have HK := hide hkj
      clear hkj
      have HO := hide hO
      have HX := hide hX
      clear hO hX
      go_wp2_with fail
      go_ret
      exact ⟨by rw [← unhide HK]; rfl, unhide HO, unhide HX⟩

theorem markMsg_zero (ao : Option Addr) (cap : Nat) (k : Int) (w : World) :
    Calls Try.prog 21 #[.slice ao 0 cap, .int .i64 k] w fun e w' => e = .returned (.int .i64 k) ∧ w' = w := by
  go_enter Try.func21, Try.ntmps21
  go_wp2_with fail
  refine wp_loop_rounds 1 ?_
  rw [rounds_succ]
  go_wp2_with fail
  go_ret
  exact ⟨rfl, rfl⟩

/-- markMsgS. -/
theorem mark_MsgS (v : Value) (xs : List DMsg) (bl : List Nat) (k : Int) (w : World) (h : (Lay.sl Lay.tMsg).Own w [v] xs bl) (hk : 0 ≤ k) (hk2 : k + (Lay.sl Lay.tMsg).vcnt xs ≤ 1000000000) :
    Calls Try.prog 21 #[v, .int .i64 k] w fun e w' => e = .returned (.int .i64 (k + (Lay.sl Lay.tMsg).vcnt xs)) ∧ (Lay.sl Lay.tMsg).Own w' [v] ((Lay.sl Lay.tMsg).mkv k xs) bl ∧ Ext (fun q => q ∈ bl) w w' := by
  obtain ⟨ao, cap, rfl⟩ := open_sl h.reads
  by_cases hp : 0 < xs.length
  · obtain ⟨b, off, rfl, hbl⟩ := Lay.sl_addr h.reads hp
    exact markMsg_pos b off cap xs bl k w h hk hk2
  · obtain rfl : xs = [] := List.eq_nil_of_length_eq_zero (by omega)
    refine (markMsg_zero ao cap k w).mono ?_
    rintro e w' ⟨rfl, rfl⟩
    exact ⟨by rw [vcnt_MsgS]; simp [cntAll], h, Ext.refl _ _⟩

end Go.Proofs.Ytkmfkaljdngigaa

namespace Go.Proofs.Ytkmfkaljdngigaa
open Go.RowKit

structure DNetResult where
  code : Int
  msgs : List DMsg

def Lay.tNetResult : Lay DNetResult := Lay.via (Lay.pair Lay.int (Lay.sl Lay.tMsg)) (fun x => (x.code, x.msgs)) (fun p => ⟨p.1, p.2⟩)

theorem lies_NetResult {w : World} {cs : List Value} {x : DNetResult} {bl : List Nat} : Lay.tNetResult.lies w cs x bl ↔ ∃ (a1 : Option Addr) (d1 : Nat) (b1 : List Nat), cs = [.int .i64 x.code, .slice a1 x.msgs.length d1] ∧ bl = b1 ∧ (Lit.int .i64 x.code).wf = true ∧ (Lay.sl Lay.tMsg).lies w [.slice a1 x.msgs.length d1] x.msgs b1 := by
  constructor
  · intro h
    obtain ⟨c0_, r0_, e0_, s0_, rfl, rfl, h0, h1⟩ := h
    obtain ⟨rfl, w0, rfl⟩ := h0
    have k1 := h1
    obtain ⟨a1, d1, rfl, -⟩ := k1
    exact ⟨a1, d1, s0_, by simp, by simp, w0, h1⟩
  · rintro ⟨a1, d1, b1, rfl, hbl, w0, l1⟩
    rw [hbl]
    exact ⟨[.int .i64 x.code], [.slice a1 x.msgs.length d1], [], b1, rfl, by simp, ⟨rfl, w0, rfl⟩, l1⟩

theorem open_NetResult {w : World} {cs : List Value} {x : DNetResult} (h : Lay.tNetResult.Reads w cs x) : ∃ (a1 : Option Addr) (d1 : Nat), cs = [.int .i64 x.code, .slice a1 x.msgs.length d1] ∧ (Lay.sl Lay.tMsg).Reads w [.slice a1 x.msgs.length d1] x.msgs := by
  obtain ⟨bl, h⟩ := h
  obtain ⟨a1, d1, b1, rfl, -, w0, l1⟩ := lies_NetResult.1 h
  exact ⟨a1, d1, rfl, ⟨_, l1⟩⟩

end Go.Proofs.Ytkmfkaljdngigaa

namespace Go.Proofs.Ytkmfkaljdngigaa
open Go.RowKit

set_option maxRecDepth 10000 in
set_option maxHeartbeats 1000000 in
theorem eq_NetResult (cs cs2 : List Value) (x : DNetResult) (w : World) (h : Lay.tNetResult.Reads w cs x) (h2 : Lay.tNetResult.Reads w cs2 x) :
    Calls Try.prog 20 #[.agg cs.toArray, .agg cs2.toArray] w fun e w' => e = .returned (.bool true) ∧ Below w.heap.size w w' := by
  obtain ⟨a1, d1, rfl, R1⟩ := open_NetResult h
  obtain ⟨a1z, d1z, rfl, R1z⟩ := open_NetResult h2
  clear h h2
  have e0 : (x.code != x.code) = false := by simp
  have HB0 : Below w.heap.size w ((w.alloc (.cells #[.int .i64 x.code, .slice a1 x.msgs.length d1] 43)).alloc (.cells #[.int .i64 x.code, .slice a1z x.msgs.length d1z] 43)) := ((Below.refl _ _).alloc (Nat.le_refl _) _).alloc (by simp) _
  have bA : Box w.heap.size #[.int .i64 x.code, .slice a1 x.msgs.length d1] 43 ((w.alloc (.cells #[.int .i64 x.code, .slice a1 x.msgs.length d1] 43)).alloc (.cells #[.int .i64 x.code, .slice a1z x.msgs.length d1z] 43)) w.heap.size := (newBox (Nat.le_refl _)).grow _
  have bC : Box w.heap.size #[.int .i64 x.code, .slice a1z x.msgs.length d1z] 43 ((w.alloc (.cells #[.int .i64 x.code, .slice a1 x.msgs.length d1] 43)).alloc (.cells #[.int .i64 x.code, .slice a1z x.msgs.length d1z] 43)) (w.heap.size + 1) := newBoxAt (by omega) (by simp)
  go_enter Try.func20, Try.ntmps20
  go_wp2_with fail
  generalize (w.alloc (.cells #[.int .i64 x.code, .slice a1 x.msgs.length d1] 43)).alloc (.cells #[.int .i64 x.code, .slice a1z x.msgs.length d1z] 43) = W0 at *
  replace R1 := R1.later HB0
  replace R1z := R1z.later HB0
  refine (eq_MsgS _ _ x.msgs _ R1 R1z).mono ?_
  rintro e w1 ⟨rfl, hb⟩
  replace bA := bA.keep hb
  replace bC := bC.keep hb
  replace HB0 := HB0.trans (hb.mono HB0.size)
  clear hb
  have HB := hide HB0
  have HA := hide bA
  have HC := hide bC
  clear HB0 bA bC
  go_wp2_with fail
  go_ret
  exact ⟨rfl, unhide HB⟩

end Go.Proofs.Ytkmfkaljdngigaa

namespace Go.Proofs.Ytkmfkaljdngigaa
open Go.RowKit

theorem vcnt_NetResult (x : DNetResult) : Lay.tNetResult.vcnt x = (Lay.sl Lay.tMsg).vcnt x.msgs := by
  show 0 + ((Lay.sl Lay.tMsg).vcnt x.msgs) = (Lay.sl Lay.tMsg).vcnt x.msgs
  omega
theorem mkv_NetResult (k : Int) (x : DNetResult) : Lay.tNetResult.mkv k x = ⟨x.code, (Lay.sl Lay.tMsg).mkv (k) x.msgs⟩ := by
  simp [Lay.tNetResult, Lay.via, Lay.pair, Lay.int]
theorem own_NetResult {w : World} {cs : List Value} {x : DNetResult} {bl : List Nat} (h : Lay.tNetResult.Own w cs x bl) : ∃ (a1 : Option Addr) (d1 : Nat) (g1 : List Nat), cs = [.int .i64 x.code, .slice a1 x.msgs.length d1] ∧ bl = g1 ∧ (Lay.sl Lay.tMsg).Own w [.slice a1 x.msgs.length d1] x.msgs g1 ∧ (Lit.int .i64 x.code).wf = true := by
  obtain ⟨hl, hn, hf⟩ := h
  obtain ⟨a1, d1, b1, rfl, hbl, w0, l1⟩ := lies_NetResult.1 hl
  rw [hbl] at hn hf
  exact ⟨a1, d1, b1, rfl, hbl, ⟨l1, hn, hf⟩, w0⟩
theorem mkOwn_NetResult {w : World} {x : DNetResult} {c1 : List Value} {g1 : List Nat} (O1 : (Lay.sl Lay.tMsg).Own w c1 x.msgs g1) (v0 : (Lit.int .i64 x.code).wf = true) (hn : (g1).Nodup) : Lay.tNetResult.Own w ([.int .i64 x.code] ++ c1) x (g1) := by
  refine ⟨⟨[.int .i64 x.code], c1, [], g1, rfl, by simp, ⟨rfl, v0, rfl⟩, O1.1⟩, hn, ?_⟩
  intro b hb o
  exact O1.2.2 b hb o

end Go.Proofs.Ytkmfkaljdngigaa

namespace Go.Proofs.Ytkmfkaljdngigaa
open Go.RowKit

set_option maxRecDepth 10000 in
set_option maxHeartbeats 1000000 in
theorem mark_NetResult (cs : List Value) (x : DNetResult) (bl : List Nat) (k : Int) (w : World) (h : Lay.tNetResult.Own w cs x bl) (hk : 0 ≤ k) (hk2 : k + Lay.tNetResult.vcnt x ≤ 1000000000) :
    Calls Try.prog 23 #[.agg cs.toArray, .int .i64 k] w fun e w' => e = .returned (.int .i64 (k + Lay.tNetResult.vcnt x)) ∧ Lay.tNetResult.Own w' cs (Lay.tNetResult.mkv k x) bl ∧ Ext (fun q => q ∈ bl) w w' := by
  have hlt := h.lt
  have hnd := h.2.1
  rw [vcnt_NetResult] at hk2
  obtain ⟨a1, d1, g1, rfl, hbl, O1, v0⟩ := own_NetResult h
  clear h
  have HB0 : Below w.heap.size w (w.alloc (.cells #[.int .i64 x.code, .slice a1 x.msgs.length d1] 43)) := (Below.refl _ _).alloc (Nat.le_refl _) _
  have bA : Box w.heap.size #[.int .i64 x.code, .slice a1 x.msgs.length d1] 43 (w.alloc (.cells #[.int .i64 x.code, .slice a1 x.msgs.length d1] 43)) w.heap.size := newBox (Nat.le_refl _)
  have HN := hide hnd
  have HV := hide (vcnt_NetResult x)
  have HM := hide (mkv_NetResult k x)
  clear hnd
  go_enter Try.func23, Try.ntmps23
  go_wp2_with fail
  generalize w.alloc (.cells #[.int .i64 x.code, .slice a1 x.msgs.length d1] 43) = W0 at *
  replace O1 := O1.later HB0
  have hsz := HB0.size
  have EX : Ext (fun q => q ∈ bl) w W0 := ext_of_below HB0 _
  have hs0 := bA.lt
  refine (mark_MsgS _ x.msgs g1 (k) _ O1 (by omega) (by omega)).mono ?_
  rintro e w1 ⟨rfl, Q1, E1⟩
  replace EX := EX.trans (E1.mono fun b _ hb => by rw [hbl]; simp [hb])
  replace bA := bA.ext E1 (fun hm => by have := hlt w.heap.size (by rw [hbl]; simp [hm]); omega)
  clear E1
  have HA := hide bA
  have HX := hide EX
  have HL := hide hlt
  have HBL := hide hbl
  clear bA EX hlt hbl
  have P1 := hide Q1
  clear Q1
  clear O1
  go_wp2_with fail
  go_ret
  refine ⟨?_, ?_, unhide HX⟩
  · rw [show k + (Lay.tNetResult.vcnt x : Int) = k + ((Lay.sl Lay.tMsg).vcnt x.msgs : Int) by rw [unhide HV]]
    rfl
  · have e := unhide HBL
    subst e
    rw [unhide HM]
    exact mkOwn_NetResult (x := ⟨x.code, (Lay.sl Lay.tMsg).mkv (k) x.msgs⟩) (unhide P1) v0 (unhide HN)

end Go.Proofs.Ytkmfkaljdngigaa

namespace Go.Proofs.Ytkmfkaljdngigaa
open Go.RowKit

set_option maxRecDepth 10000 in
set_option maxHeartbeats 2000000 in
theorem heldMsg_pos (b off cap : Nat) (xs : List DMsg) (k : Int) (w : World) (h : (Lay.sl Lay.tMsg).Reads w [.slice (some ⟨b, off, none⟩) (mkAll Lay.tMsg.cnt Lay.tMsg.mkd k xs).length cap] (mkAll Lay.tMsg.cnt Lay.tMsg.mkd k xs)) (hbl : b < w.heap.size) (hk : 0 ≤ k) (hk2 : k + (cntAll Lay.tMsg.cnt xs : Nat) ≤ 1000000000) :
    Calls Try.prog 46 #[.slice (some ⟨b, off, none⟩) xs.length cap, .int .i64 k] w fun e w' => e = .returned (.int .i64 (k + (cntAll Lay.tMsg.cnt xs : Nat))) ∧ Below w.heap.size w w' := by
  have hbig := h.big
  rw [mkAll_size] at hbig
  have H := hide h
  clear h
  go_enter Try.func46, Try.ntmps46
  go_wp2_with fail
  go_loopw [1, 5] (fun kk i wr => ∃ (j : Nat) (kj : Int), j ≤ xs.length ∧ i = .int .i64 j ∧ kj = k + (cntAll Lay.tMsg.cnt (xs.take j) : Nat) ∧ kk = .int .i64 kj ∧ Below w.heap.size w wr) (fun _ i _ => xs.length - (intOf i).toNat)
  case atStart => exact ⟨0, k, Nat.zero_le _, rfl, by simp [cntAll], rfl, Below.refl _ _⟩
  case round =>
    obtain ⟨j, kj, hj, rfl, hkj, rfl, hB⟩ := hrel
    by_cases hlt : j < xs.length
    · have hj2 : j < (mkAll Lay.tMsg.cnt Lay.tMsg.mkd k xs).length := by rw [mkAll_size]; exact hlt
      obtain ⟨row, hc, hr⟩ := Lay.row_at (unhide H) hj2
      rw [mkAll_at _ _ _ _ _ hlt hj2, ← hkj, mkd_Msg] at hr
      have HT := hide (Lay.cntAll_take (f := Lay.tMsg.cnt) hlt)
      have hle := Lay.cntAll_take_le (f := Lay.tMsg.cnt) (xs := xs) (k := j + 1)
      rw [unhide HT] at hle
      clear hj2
      generalize hx : xs[j] = x at *
      clear hx
      have hcn := cnt_Msg x
      have hb1 : 0 ≤ kj := by omega
      have hb2 : kj + (Lay.tMsg.cnt x : Int) ≤ 1000000000 := by omega
      have HK := hide hkj
      clear hkj hle
      replace hr := hr.later hB
      obtain ⟨a7, d7, rfl, RW⟩ := open_Msg hr
      obtain ⟨_, _, e9, R7⟩ := open_Write RW
      simp only [List.cons.injEq, Value.slice.injEq, true_and, and_true] at e9
      obtain ⟨rfl, rfl⟩ := e9
      clear hr RW
      generalize hn : (⟨kj, kj + 1, kj + 1 + 1, kj + 1 + 1 + 1, kj + 1 + 1 + 1 + 1, ⟨kj + 1 + 1 + 1 + 1 + 1, kj + 1 + 1 + 1 + 1 + 1 + 1, (Lay.sl Lay.int).mkv (kj + 1 + 1 + 1 + 1 + 1 + 1 + 1) x.write.vec, kj + 1 + 1 + 1 + 1 + 1 + 1 + 1 + ((Lay.sl Lay.int).vcnt x.write.vec : Nat), kj + 1 + 1 + 1 + 1 + 1 + 1 + 1 + ((Lay.sl Lay.int).vcnt x.write.vec : Nat) + 1⟩⟩ : DMsg).write.vec.length = n1 at *
      clear hn
      have c0 : wr.cell? ⟨b, off + j * 10, none⟩ = some (.int .i64 (kj)) := (hB.cell (p := ⟨b, off + j * 10, none⟩) hbl).trans (hc 0 (by decide))
      have e0 : ((kj : Int) != (kj : Int)) = false := by simp
      have c1 : wr.cell? ⟨b, off + j * 10 + 1, none⟩ = some (.int .i64 (kj + 1)) := (hB.cell (p := ⟨b, off + j * 10 + 1, none⟩) hbl).trans (hc 1 (by decide))
      have e1 : ((kj + 1 : Int) != (kj + 1 : Int)) = false := by simp
      have c2 : wr.cell? ⟨b, off + j * 10 + 2, none⟩ = some (.int .i64 (kj + 1 + 1)) := (hB.cell (p := ⟨b, off + j * 10 + 2, none⟩) hbl).trans (hc 2 (by decide))
      have e2 : ((kj + 1 + 1 : Int) != (kj + 1 + 1 : Int)) = false := by simp
      have c3 : wr.cell? ⟨b, off + j * 10 + 3, none⟩ = some (.int .i64 (kj + 1 + 1 + 1)) := (hB.cell (p := ⟨b, off + j * 10 + 3, none⟩) hbl).trans (hc 3 (by decide))
      have e3 : ((kj + 1 + 1 + 1 : Int) != (kj + 1 + 1 + 1 : Int)) = false := by simp
      have c4 : wr.cell? ⟨b, off + j * 10 + 4, none⟩ = some (.int .i64 (kj + 1 + 1 + 1 + 1)) := (hB.cell (p := ⟨b, off + j * 10 + 4, none⟩) hbl).trans (hc 4 (by decide))
      have e4 : ((kj + 1 + 1 + 1 + 1 : Int) != (kj + 1 + 1 + 1 + 1 : Int)) = false := by simp
      have c5 : wr.cell? ⟨b, off + j * 10 + 5, none⟩ = some (.int .i64 (kj + 1 + 1 + 1 + 1 + 1)) := (hB.cell (p := ⟨b, off + j * 10 + 5, none⟩) hbl).trans (hc 5 (by decide))
      have e5 : ((kj + 1 + 1 + 1 + 1 + 1 : Int) != (kj + 1 + 1 + 1 + 1 + 1 : Int)) = false := by simp
      have c6 : wr.cell? ⟨b, off + j * 10 + 6, none⟩ = some (.int .i64 (kj + 1 + 1 + 1 + 1 + 1 + 1)) := (hB.cell (p := ⟨b, off + j * 10 + 6, none⟩) hbl).trans (hc 6 (by decide))
      have e6 : ((kj + 1 + 1 + 1 + 1 + 1 + 1 : Int) != (kj + 1 + 1 + 1 + 1 + 1 + 1 : Int)) = false := by simp
      have c7 : wr.cell? ⟨b, off + j * 10 + 7, none⟩ = some (.slice a7 n1 d7) := (hB.cell (p := ⟨b, off + j * 10 + 7, none⟩) hbl).trans (hc 7 (by decide))
      have c8 : wr.cell? ⟨b, off + j * 10 + 8, none⟩ = some (.int .i64 (kj + 1 + 1 + 1 + 1 + 1 + 1 + 1 + ((Lay.sl Lay.int).vcnt x.write.vec : Nat))) := (hB.cell (p := ⟨b, off + j * 10 + 8, none⟩) hbl).trans (hc 8 (by decide))
      have e8 : ((kj + 1 + 1 + 1 + 1 + 1 + 1 + 1 + ((Lay.sl Lay.int).vcnt x.write.vec : Nat) : Int) != (kj + 1 + 1 + 1 + 1 + 1 + 1 + 1 + ((Lay.sl Lay.int).vcnt x.write.vec : Nat) : Int)) = false := by simp
      have c9 : wr.cell? ⟨b, off + j * 10 + 9, none⟩ = some (.int .i64 (kj + 1 + 1 + 1 + 1 + 1 + 1 + 1 + ((Lay.sl Lay.int).vcnt x.write.vec : Nat) + 1)) := (hB.cell (p := ⟨b, off + j * 10 + 9, none⟩) hbl).trans (hc 9 (by decide))
      have e9 : ((kj + 1 + 1 + 1 + 1 + 1 + 1 + 1 + ((Lay.sl Lay.int).vcnt x.write.vec : Nat) + 1 : Int) != (kj + 1 + 1 + 1 + 1 + 1 + 1 + 1 + ((Lay.sl Lay.int).vcnt x.write.vec : Nat) + 1 : Int)) = false := by simp
      have HB := hide hB
      clear hB hc
      go_wp2_with fail
      refine (held_Int64S _ x.write.vec (kj + 1 + 1 + 1 + 1 + 1 + 1 + 1) _ R7 (by omega) (by omega)).mono ?_
      rintro e w2 ⟨rfl, hb⟩
      have l1 : b < wr.heap.size := Nat.lt_of_lt_of_le hbl (unhide HB).size
      replace c8 := (hb.cell (p := ⟨b, off + j * 10 + 8, none⟩) l1).trans c8
      replace c9 := (hb.cell (p := ⟨b, off + j * 10 + 9, none⟩) l1).trans c9
      replace HB := hide ((unhide HB).trans (hb.mono (unhide HB).size))
      clear hb R7 l1 c0 c1 c2 c3 c4 c5 c6 c7
      have hq : decide (kj + 1 + 1 + 1 + 1 + 1 + 1 + 1 + ((Lay.sl Lay.int).vcnt x.write.vec : Int) < 0) = false := by simp; omega
      go_wp2_with fail
      go_roundw
      case rel => exact ⟨j + 1, _, by omega, by go_num, (by rw [unhide HT, hcn]; have := unhide HK; omega), rfl, unhide HB⟩
      case measure => simp [intOf]; omega
    · obtain rfl : j = xs.length := by omega
      rw [List.take_length] at hkj
      have HK := hide hkj
      have HB := hide hB
      clear hB hkj
      go_wp2_with fail
      go_ret
      exact ⟨by rw [← unhide HK]; rfl, unhide HB⟩

theorem heldMsg_zero (ao : Option Addr) (cap : Nat) (k : Int) (w : World) :
    Calls Try.prog 46 #[.slice ao 0 cap, .int .i64 k] w fun e w' => e = .returned (.int .i64 k) ∧ w' = w := by
  go_enter Try.func46, Try.ntmps46
  go_wp2_with fail
  refine wp_loop_rounds 1 ?_
  rw [rounds_succ]
  go_wp2_with fail
  go_ret
  exact ⟨rfl, rfl⟩

/-- heldMsgS. -/
theorem held_MsgS (v : Value) (xs : List DMsg) (k : Int) (w : World) (h : (Lay.sl Lay.tMsg).Reads w [v] ((Lay.sl Lay.tMsg).mkv k xs)) (hk : 0 ≤ k) (hk2 : k + (Lay.sl Lay.tMsg).vcnt xs ≤ 1000000000) :
    Calls Try.prog 46 #[v, .int .i64 k] w fun e w' => e = .returned (.int .i64 (k + (Lay.sl Lay.tMsg).vcnt xs)) ∧ Below w.heap.size w w' := by
  rw [mkv_MsgS] at h
  obtain ⟨ao, cap, rfl⟩ := open_sl h
  by_cases hp : 0 < xs.length
  · obtain ⟨b, off, rfl, hbl⟩ := Lay.sl_addr h (by rw [mkAll_size]; exact hp)
    have L := heldMsg_pos b off cap xs k w h hbl hk hk2
    rw [mkAll_size]
    exact L
  · obtain rfl : xs = [] := List.eq_nil_of_length_eq_zero (by omega)
    refine (heldMsg_zero ao cap k w).mono ?_
    rintro e w' ⟨rfl, rfl⟩
    exact ⟨by rw [vcnt_MsgS]; simp [cntAll], Below.refl _ _⟩

end Go.Proofs.Ytkmfkaljdngigaa

namespace Go.Proofs.Ytkmfkaljdngigaa
open Go.RowKit

set_option maxRecDepth 10000 in
set_option maxHeartbeats 1000000 in
theorem held_NetResult (cs : List Value) (x : DNetResult) (k : Int) (w : World) (h : Lay.tNetResult.Reads w cs (Lay.tNetResult.mkv k x)) (hk : 0 ≤ k) (hk2 : k + Lay.tNetResult.vcnt x ≤ 1000000000) :
    Calls Try.prog 24 #[.agg cs.toArray, .int .i64 k] w fun e w' => e = .returned (.int .i64 (k + Lay.tNetResult.vcnt x)) ∧ Below w.heap.size w w' := by
  rw [mkv_NetResult] at h
  rw [vcnt_NetResult] at hk2
  have HV := hide (vcnt_NetResult x)
  obtain ⟨a1, d1, rfl, R1⟩ := open_NetResult h
  clear h
  generalize hn1 : (⟨x.code, (Lay.sl Lay.tMsg).mkv (k) x.msgs⟩ : DNetResult).msgs.length = n1 at *
  clear hn1
  have HB0 : Below w.heap.size w (w.alloc (.cells #[.int .i64 x.code, .slice a1 n1 d1] 43)) := (Below.refl _ _).alloc (Nat.le_refl _) _
  have bA : Box w.heap.size #[.int .i64 x.code, .slice a1 n1 d1] 43 (w.alloc (.cells #[.int .i64 x.code, .slice a1 n1 d1] 43)) w.heap.size := newBox (Nat.le_refl _)
  go_enter Try.func24, Try.ntmps24
  go_wp2_with fail
  generalize w.alloc (.cells #[.int .i64 x.code, .slice a1 n1 d1] 43) = W0 at *
  replace R1 := R1.later HB0
  refine (held_MsgS _ x.msgs (k) _ R1 (by omega) (by omega)).mono ?_
  rintro e w1 ⟨rfl, hb⟩
  replace HB0 := HB0.trans (hb.mono HB0.size)
  replace bA := bA.keep hb
  have HA := hide bA
  have HX := hide HB0
  clear bA HB0 hb R1
  have hq : decide (k + ((Lay.sl Lay.tMsg).vcnt x.msgs : Int) < 0) = false := by simp; omega
  go_wp2_with fail
  clear hq
  go_ret
  refine ⟨?_, unhide HX⟩
  rw [show k + (Lay.tNetResult.vcnt x : Int) = k + ((Lay.sl Lay.tMsg).vcnt x.msgs : Int) by rw [unhide HV]]
  rfl

end Go.Proofs.Ytkmfkaljdngigaa

namespace Go.Proofs.Ytkmfkaljdngigaa
open Go.RowKit

set_option maxRecDepth 100000 in
set_option maxHeartbeats 4000000 in
theorem lawx_DropMsg (v0 : Value) (x0 : List DMsg) (x1 : Int) (y : DNetResult) (w : World) (A0 : (Lay.sl Lay.tMsg).Reads w [v0] x0) (NS : (Lay.sl Lay.tMsg).sz x0 ≤ 1048576)
    (hS : ∀ (W : World) (v0 : Value), (Lay.sl Lay.tMsg).Reads W [v0] x0 → Calls Try.prog 25 #[v0, .int .i64 x1] W fun e w' => ∃ cs, e = .returned (.agg cs.toArray) ∧ Lay.tNetResult.Reads w' cs y ∧ Below W.heap.size W w')
    (hI : ∀ (W : World) (v0 : Value), (Lay.sl Lay.tMsg).Reads W [v0] x0 → Calls Try.prog 26 #[v0, .int .i64 x1] W fun e w' => ∃ cs, e = .returned (.agg cs.toArray) ∧ Lay.tNetResult.OwnIn w' cs y W.heap.size w'.heap.size ∧ Below W.heap.size W w') (hc : Lay.tNetResult.vcnt y ≤ 100000000) :
    Calls Try.prog 6 #[v0, .int .i64 x1] w fun e w' => e = .returned (.bool true) ∧ Below w.heap.size w w' := by
  obtain ⟨ao0, cp0, rfl⟩ := open_sl A0
  have HS := hide hS
  have HI := hide hI
  clear hS hI
  have HA0 := hide A0.liesIn
  clear A0
  have N0 : (Lay.sl Lay.tMsg).sz x0 ≤ 1048576 := by omega
  have HN0 := hide N0
  clear N0
  have HC := hide hc
  clear hc
  have HNS := hide NS
  clear NS
  have HB := hide (Below.refl w.heap.size w)
  go_enter Try.func6, Try.ntmps6
  go_wp2_with fail
  have hns := unhide HNS
  refine (sz_MsgS _ x0 (1048576) w (unhide HA0).reads (by omega)).mono ?_
  rintro e w1 ⟨rfl, hb⟩
  replace HA0 := hide ((unhide HA0).later hb)
  have Zw1 : w.heap.size ≤ w1.heap.size := hb.size
  replace HB := hide ((unhide HB).trans (hb.mono (by omega)))
  clear hb
  rw [szR_ok (by omega)]
  have hq0 : decide (((1048576 - (Lay.sl Lay.tMsg).sz x0 : Nat) : Int) < 0) = false := by simp
  clear hns
  go_wp2_with fail
  clear hq0
  refine (to_MsgS _ x0 w1 (unhide HA0).reads (unhide HN0)).mono ?_
  rintro e w2 ⟨vc0, rfl, O, hb⟩
  replace HA0 := hide ((unhide HA0).later hb)
  have Zw2 : w1.heap.size ≤ w2.heap.size := hb.size
  replace HB := hide ((unhide HB).trans (hb.mono (by omega)))
  clear hb
  obtain ⟨aoc0, cpc0, rfl⟩ := open_sl O.reads
  have Hc0 := hide O
  clear O
  go_wp2_with fail
  refine (unhide HS w2 _ (unhide Hc0).reads).mono ?_
  rintro e w3 ⟨cs, rfl, O, hb⟩
  replace HA0 := hide ((unhide HA0).later hb)
  replace Hc0 := hide ((unhide Hc0).later hb)
  have Zw3 : w2.heap.size ≤ w3.heap.size := hb.size
  replace HB := hide ((unhide HB).trans (hb.mono (by omega)))
  clear hb
  obtain ⟨a1W, d1W, rfl, -⟩ := open_NetResult O
  have HW := hide O.liesIn
  clear O
  have nb : Below w3.heap.size w3 (w3.alloc (.cells #[.int .i64 y.code, .slice a1W y.msgs.length d1W] 43)) := (Below.refl _ _).alloc (Nat.le_refl _) _
  have YW : Hid (Box w3.heap.size #[.int .i64 y.code, .slice a1W y.msgs.length d1W] 43 (w3.alloc (.cells #[.int .i64 y.code, .slice a1W y.msgs.length d1W] 43)) w3.heap.size) := newBox (Nat.le_refl _)
  clear Hc0
  go_wp2_with fail
  generalize haw4 : w3.alloc (.cells #[.int .i64 y.code, .slice a1W y.msgs.length d1W] 43) = w4 at *
  have Gw4 : w3.heap.size < w4.heap.size := by rw [← haw4]; simp
  clear haw4
  replace HA0 := hide ((unhide HA0).later nb)
  replace HW := hide ((unhide HW).later nb)
  have Zw4 : w3.heap.size ≤ w4.heap.size := nb.size
  replace HB := hide ((unhide HB).trans (nb.mono (by omega)))
  clear nb
  refine (to_MsgS _ x0 w4 (unhide HA0).reads (unhide HN0)).mono ?_
  rintro e w5 ⟨vx0, rfl, O, hb⟩
  replace HA0 := hide ((unhide HA0).later hb)
  replace HW := hide ((unhide HW).later hb)
  replace YW := hide ((unhide YW).keep hb)
  have Zw5 : w4.heap.size ≤ w5.heap.size := hb.size
  replace HB := hide ((unhide HB).trans (hb.mono (by omega)))
  clear hb
  obtain ⟨aox0, cpx0, rfl⟩ := open_sl O.reads
  have Hx0 := hide O
  clear O
  have l0YW := (unhide YW).at 0 _ rfl
  have l1YW := (unhide YW).at 1 _ rfl
  have ltYW : w3.heap.size < w5.heap.size := by omega
  simp only [List.getElem_toArray, List.getElem_cons_zero, List.getElem_cons_succ] at l0YW l1YW
  go_wp2_with fail
  clear l0YW l1YW ltYW
  refine (unhide HI w5 _ (unhide Hx0).reads).mono ?_
  rintro e w6 ⟨cs, rfl, O, hb⟩
  replace HA0 := hide ((unhide HA0).later hb)
  replace HW := hide ((unhide HW).later hb)
  replace YW := hide ((unhide YW).keep hb)
  replace Hx0 := hide ((unhide Hx0).later hb)
  have Zw6 : w5.heap.size ≤ w6.heap.size := hb.size
  replace HB := hide ((unhide HB).trans (hb.mono (by omega)))
  clear hb
  obtain ⟨a1G, d1G, rfl, -⟩ := open_NetResult O.reads
  have HG := hide O
  clear O
  have nb : Below w6.heap.size w6 (w6.alloc (.cells #[.int .i64 y.code, .slice a1G y.msgs.length d1G] 43)) := (Below.refl _ _).alloc (Nat.le_refl _) _
  have YG : Hid (Box w6.heap.size #[.int .i64 y.code, .slice a1G y.msgs.length d1G] 43 (w6.alloc (.cells #[.int .i64 y.code, .slice a1G y.msgs.length d1G] 43)) w6.heap.size) := newBox (Nat.le_refl _)
  have l0YW := (unhide YW).at 0 _ rfl
  have l1YW := (unhide YW).at 1 _ rfl
  have ltYW : w3.heap.size < w6.heap.size := by omega
  simp only [List.getElem_toArray, List.getElem_cons_zero, List.getElem_cons_succ] at l0YW l1YW
  go_wp2_with fail
  clear l0YW l1YW ltYW
  generalize haw7 : w6.alloc (.cells #[.int .i64 y.code, .slice a1G y.msgs.length d1G] 43) = w7 at *
  have Gw7 : w6.heap.size < w7.heap.size := by rw [← haw7]; simp
  clear haw7
  replace HA0 := hide ((unhide HA0).later nb)
  replace HW := hide ((unhide HW).later nb)
  replace YW := hide ((unhide YW).keep nb)
  replace Hx0 := hide ((unhide Hx0).later nb)
  replace HG := hide ((unhide HG).later nb)
  have Zw7 : w6.heap.size ≤ w7.heap.size := nb.size
  replace HB := hide ((unhide HB).trans (nb.mono (by omega)))
  clear nb
  refine (eq_NetResult _ _ y w7 (unhide HG).reads (unhide HW).reads).mono ?_
  rintro e w8 ⟨rfl, hb⟩
  replace HA0 := hide ((unhide HA0).later hb)
  replace HW := hide ((unhide HW).later hb)
  replace YW := hide ((unhide YW).keep hb)
  replace Hx0 := hide ((unhide Hx0).later hb)
  replace HG := hide ((unhide HG).later hb)
  replace YG := hide ((unhide YG).keep hb)
  have Zw8 : w7.heap.size ≤ w8.heap.size := hb.size
  replace HB := hide ((unhide HB).trans (hb.mono (by omega)))
  clear hb
  have l0YW := (unhide YW).at 0 _ rfl
  have l1YW := (unhide YW).at 1 _ rfl
  have ltYW : w3.heap.size < w8.heap.size := by omega
  have l0YG := (unhide YG).at 0 _ rfl
  have l1YG := (unhide YG).at 1 _ rfl
  have ltYG : w6.heap.size < w8.heap.size := by omega
  simp only [List.getElem_toArray, List.getElem_cons_zero, List.getElem_cons_succ] at l0YW l1YW l0YG l1YG
  go_wp2_with fail
  clear l0YW l1YW ltYW l0YG l1YG ltYG
  refine (to_MsgS _ x0 w8 (unhide HA0).reads (unhide HN0)).mono ?_
  rintro e w9 ⟨vd0, rfl, O, hb⟩
  replace HA0 := hide ((unhide HA0).later hb)
  replace HW := hide ((unhide HW).later hb)
  replace YW := hide ((unhide YW).keep hb)
  replace Hx0 := hide ((unhide Hx0).later hb)
  replace HG := hide ((unhide HG).later hb)
  replace YG := hide ((unhide YG).keep hb)
  have Zw9 : w8.heap.size ≤ w9.heap.size := hb.size
  replace HB := hide ((unhide HB).trans (hb.mono (by omega)))
  clear hb
  obtain ⟨aod0, cpd0, rfl⟩ := open_sl O.reads
  have Hd0 := hide O
  clear O
  have l0YW := (unhide YW).at 0 _ rfl
  have l1YW := (unhide YW).at 1 _ rfl
  have ltYW : w3.heap.size < w9.heap.size := by omega
  have l0YG := (unhide YG).at 0 _ rfl
  have l1YG := (unhide YG).at 1 _ rfl
  have ltYG : w6.heap.size < w9.heap.size := by omega
  simp only [List.getElem_toArray, List.getElem_cons_zero, List.getElem_cons_succ] at l0YW l1YW l0YG l1YG
  go_wp2_with fail
  clear l0YW l1YW ltYW l0YG l1YG ltYG
  refine (eq_MsgS _ _ x0 w9 (unhide Hx0).reads (unhide Hd0).reads).mono ?_
  rintro e w10 ⟨rfl, hb⟩
  replace HA0 := hide ((unhide HA0).later hb)
  replace HW := hide ((unhide HW).later hb)
  replace YW := hide ((unhide YW).keep hb)
  replace Hx0 := hide ((unhide Hx0).later hb)
  replace HG := hide ((unhide HG).later hb)
  replace YG := hide ((unhide YG).keep hb)
  replace Hd0 := hide ((unhide Hd0).later hb)
  have Zw10 : w9.heap.size ≤ w10.heap.size := hb.size
  replace HB := hide ((unhide HB).trans (hb.mono (by omega)))
  clear hb
  clear Hd0
  have l0YW := (unhide YW).at 0 _ rfl
  have l1YW := (unhide YW).at 1 _ rfl
  have ltYW : w3.heap.size < w10.heap.size := by omega
  have l0YG := (unhide YG).at 0 _ rfl
  have l1YG := (unhide YG).at 1 _ rfl
  have ltYG : w6.heap.size < w10.heap.size := by omega
  simp only [List.getElem_toArray, List.getElem_cons_zero, List.getElem_cons_succ] at l0YW l1YW l0YG l1YG
  go_wp2_with fail
  clear l0YW l1YW ltYW l0YG l1YG ltYG
  obtain ⟨bl, O, hbl⟩ := unhide Hx0
  clear Hx0
  have HCx0 := few_bound (A := (Lay.sl Lay.tMsg)) (few_sl (few_via (few_pair few_int (few_pair few_int (few_pair few_int (few_pair few_int (few_pair few_int (few_via (few_pair few_int (few_pair few_int (few_pair (few_sl few_int) (few_pair few_int few_int)))))))))))) (unhide HN0) (by omega)
  refine (mark_MsgS _ x0 bl (1) w10 O (by omega) (by omega)).mono ?_
  rintro e w11 ⟨rfl, -, E⟩
  replace E := E.mono (S' := within w4.heap.size w5.heap.size) fun b _ hb => hbl b hb
  clear hbl O
  have zlo : w.heap.size ≤ w4.heap.size ∧ w5.heap.size ≤ w10.heap.size := by omega
  replace HA0 := hide ((unhide HA0).ext E (within_out (by omega)))
  replace HW := hide ((unhide HW).ext E (within_out (by omega)))
  replace YW := hide ((unhide YW).ext E (fun q => by simp only [within] at q; omega))
  replace HG := hide ((unhide HG).ext E (within_out (by omega)))
  replace YG := hide ((unhide YG).ext E (fun q => by simp only [within] at q; omega))
  have Zw11 : w10.heap.size ≤ w11.heap.size := E.size
  replace HB := hide ((unhide HB).trans (E.below (by omega) (fun k h q => by simp only [within] at q; omega)))
  clear E
  clear zlo
  obtain ⟨mk, hmk⟩ : ∃ mk : Int, mk = 1 + ((Lay.sl Lay.tMsg).vcnt x0 : Int) := ⟨_, rfl⟩
  rw [← hmk]
  have hm3 : decide (mk < 0) = false := decide_eq_false (by omega)
  clear hmk HCx0
  have l0YW := (unhide YW).at 0 _ rfl
  have l1YW := (unhide YW).at 1 _ rfl
  have ltYW : w3.heap.size < w11.heap.size := by omega
  have l0YG := (unhide YG).at 0 _ rfl
  have l1YG := (unhide YG).at 1 _ rfl
  have ltYG : w6.heap.size < w11.heap.size := by omega
  simp only [List.getElem_toArray, List.getElem_cons_zero, List.getElem_cons_succ] at l0YW l1YW l0YG l1YG
  go_wp2_with fail
  clear l0YW l1YW ltYW l0YG l1YG ltYG
  refine (eq_NetResult _ _ y w11 (unhide HG).reads (unhide HW).reads).mono ?_
  rintro e w12 ⟨rfl, hb⟩
  replace HA0 := hide ((unhide HA0).later hb)
  replace HW := hide ((unhide HW).later hb)
  replace YW := hide ((unhide YW).keep hb)
  replace HG := hide ((unhide HG).later hb)
  replace YG := hide ((unhide YG).keep hb)
  have Zw12 : w11.heap.size ≤ w12.heap.size := hb.size
  replace HB := hide ((unhide HB).trans (hb.mono (by omega)))
  clear hb
  clear hm3
  have l0YW := (unhide YW).at 0 _ rfl
  have l1YW := (unhide YW).at 1 _ rfl
  have ltYW : w3.heap.size < w12.heap.size := by omega
  have l0YG := (unhide YG).at 0 _ rfl
  have l1YG := (unhide YG).at 1 _ rfl
  have ltYG : w6.heap.size < w12.heap.size := by omega
  simp only [List.getElem_toArray, List.getElem_cons_zero, List.getElem_cons_succ] at l0YW l1YW l0YG l1YG
  go_wp2_with fail
  clear l0YW l1YW ltYW l0YG l1YG ltYG
  obtain ⟨bl, O, hbl⟩ := unhide HG
  clear HG
  have hcy := unhide HC
  refine (mark_NetResult _ y bl 1 w12 O (by omega) (by omega)).mono ?_
  rintro e w13 ⟨rfl, O2, E⟩
  replace E := E.mono (S' := within w5.heap.size w6.heap.size) fun b _ hb => hbl b hb
  have HG : Hid (Lay.tNetResult.OwnIn w13 _ (Lay.tNetResult.mkv 1 y) w5.heap.size w6.heap.size) := ⟨bl, O2, hbl⟩
  clear hbl O O2
  have zlo : w.heap.size ≤ w5.heap.size ∧ w6.heap.size ≤ w12.heap.size := by omega
  replace HA0 := hide ((unhide HA0).ext E (within_out (by omega)))
  replace HW := hide ((unhide HW).ext E (within_out (by omega)))
  replace YW := hide ((unhide YW).ext E (fun q => by simp only [within] at q; omega))
  replace YG := hide ((unhide YG).ext E (fun q => by simp only [within] at q; omega))
  have Zw13 : w12.heap.size ≤ w13.heap.size := E.size
  replace HB := hide ((unhide HB).trans (E.below (by omega) (fun k h q => by simp only [within] at q; omega)))
  clear E
  clear zlo
  have hq0 : decide (1 + (Lay.tNetResult.vcnt y : Int) < 0) = false := decide_eq_false (by omega)
  have hq1 : ((1 + (Lay.tNetResult.vcnt y : Int)) != (1 + (Lay.tNetResult.vcnt y : Int))) = false := by simp
  clear hcy
  have l0YW := (unhide YW).at 0 _ rfl
  have l1YW := (unhide YW).at 1 _ rfl
  have ltYW : w3.heap.size < w13.heap.size := by omega
  have l0YG := (unhide YG).at 0 _ rfl
  have l1YG := (unhide YG).at 1 _ rfl
  have ltYG : w6.heap.size < w13.heap.size := by omega
  simp only [List.getElem_toArray, List.getElem_cons_zero, List.getElem_cons_succ] at l0YW l1YW l0YG l1YG
  go_wp2_with fail
  clear l0YW l1YW ltYW l0YG l1YG ltYG
  refine (held_NetResult _ y 1 w13 (unhide HG).reads (by omega) (by have := unhide HC; omega)).mono ?_
  rintro e w14 ⟨rfl, hb⟩
  replace HA0 := hide ((unhide HA0).later hb)
  replace HW := hide ((unhide HW).later hb)
  replace YW := hide ((unhide YW).keep hb)
  replace YG := hide ((unhide YG).keep hb)
  replace HG := hide ((unhide HG).later hb)
  have Zw14 : w13.heap.size ≤ w14.heap.size := hb.size
  replace HB := hide ((unhide HB).trans (hb.mono (by omega)))
  clear hb
  have l0YW := (unhide YW).at 0 _ rfl
  have l1YW := (unhide YW).at 1 _ rfl
  have ltYW : w3.heap.size < w14.heap.size := by omega
  have l0YG := (unhide YG).at 0 _ rfl
  have l1YG := (unhide YG).at 1 _ rfl
  have ltYG : w6.heap.size < w14.heap.size := by omega
  simp only [List.getElem_toArray, List.getElem_cons_zero, List.getElem_cons_succ] at l0YW l1YW l0YG l1YG
  go_wp2_with fail
  clear l0YW l1YW ltYW l0YG l1YG ltYG
  refine (to_MsgS _ x0 w14 (unhide HA0).reads (unhide HN0)).mono ?_
  rintro e w15 ⟨vf0, rfl, O, hb⟩
  replace HA0 := hide ((unhide HA0).later hb)
  replace HW := hide ((unhide HW).later hb)
  replace YW := hide ((unhide YW).keep hb)
  replace YG := hide ((unhide YG).keep hb)
  replace HG := hide ((unhide HG).later hb)
  have Zw15 : w14.heap.size ≤ w15.heap.size := hb.size
  replace HB := hide ((unhide HB).trans (hb.mono (by omega)))
  clear hb
  obtain ⟨aof0, cpf0, rfl⟩ := open_sl O.reads
  have Hf0 := hide O
  clear O
  have l0YW := (unhide YW).at 0 _ rfl
  have l1YW := (unhide YW).at 1 _ rfl
  have ltYW : w3.heap.size < w15.heap.size := by omega
  have l0YG := (unhide YG).at 0 _ rfl
  have l1YG := (unhide YG).at 1 _ rfl
  have ltYG : w6.heap.size < w15.heap.size := by omega
  simp only [List.getElem_toArray, List.getElem_cons_zero, List.getElem_cons_succ] at l0YW l1YW l0YG l1YG
  go_wp2_with fail
  clear l0YW l1YW ltYW l0YG l1YG ltYG
  refine (unhide HI w15 _ (unhide Hf0).reads).mono ?_
  rintro e w16 ⟨cs, rfl, O, hb⟩
  replace HA0 := hide ((unhide HA0).later hb)
  replace HW := hide ((unhide HW).later hb)
  replace YW := hide ((unhide YW).keep hb)
  replace YG := hide ((unhide YG).keep hb)
  replace HG := hide ((unhide HG).later hb)
  replace Hf0 := hide ((unhide Hf0).later hb)
  have Zw16 : w15.heap.size ≤ w16.heap.size := hb.size
  replace HB := hide ((unhide HB).trans (hb.mono (by omega)))
  clear hb
  obtain ⟨a1K, d1K, rfl, -⟩ := open_NetResult O.reads
  have HK := hide O
  clear O
  have nb : Below w16.heap.size w16 (w16.alloc (.cells #[.int .i64 y.code, .slice a1K y.msgs.length d1K] 43)) := (Below.refl _ _).alloc (Nat.le_refl _) _
  have YK : Hid (Box w16.heap.size #[.int .i64 y.code, .slice a1K y.msgs.length d1K] 43 (w16.alloc (.cells #[.int .i64 y.code, .slice a1K y.msgs.length d1K] 43)) w16.heap.size) := newBox (Nat.le_refl _)
  clear Hf0
  have l0YW := (unhide YW).at 0 _ rfl
  have l1YW := (unhide YW).at 1 _ rfl
  have ltYW : w3.heap.size < w16.heap.size := by omega
  have l0YG := (unhide YG).at 0 _ rfl
  have l1YG := (unhide YG).at 1 _ rfl
  have ltYG : w6.heap.size < w16.heap.size := by omega
  simp only [List.getElem_toArray, List.getElem_cons_zero, List.getElem_cons_succ] at l0YW l1YW l0YG l1YG
  go_wp2_with fail
  clear l0YW l1YW ltYW l0YG l1YG ltYG
  generalize haw17 : w16.alloc (.cells #[.int .i64 y.code, .slice a1K y.msgs.length d1K] 43) = w17 at *
  have Gw17 : w16.heap.size < w17.heap.size := by rw [← haw17]; simp
  clear haw17
  replace HA0 := hide ((unhide HA0).later nb)
  replace HW := hide ((unhide HW).later nb)
  replace YW := hide ((unhide YW).keep nb)
  replace YG := hide ((unhide YG).keep nb)
  replace HG := hide ((unhide HG).later nb)
  replace HK := hide ((unhide HK).later nb)
  have Zw17 : w16.heap.size ≤ w17.heap.size := nb.size
  replace HB := hide ((unhide HB).trans (nb.mono (by omega)))
  clear nb
  refine (eq_NetResult _ _ y w17 (unhide HK).reads (unhide HW).reads).mono ?_
  rintro e w18 ⟨rfl, hb⟩
  replace HA0 := hide ((unhide HA0).later hb)
  replace HW := hide ((unhide HW).later hb)
  replace YW := hide ((unhide YW).keep hb)
  replace YG := hide ((unhide YG).keep hb)
  replace HG := hide ((unhide HG).later hb)
  replace HK := hide ((unhide HK).later hb)
  replace YK := hide ((unhide YK).keep hb)
  have Zw18 : w17.heap.size ≤ w18.heap.size := hb.size
  replace HB := hide ((unhide HB).trans (hb.mono (by omega)))
  clear hb
  clear HK
  clear YK
  have l0YW := (unhide YW).at 0 _ rfl
  have l1YW := (unhide YW).at 1 _ rfl
  have ltYW : w3.heap.size < w18.heap.size := by omega
  have l0YG := (unhide YG).at 0 _ rfl
  have l1YG := (unhide YG).at 1 _ rfl
  have ltYG : w6.heap.size < w18.heap.size := by omega
  simp only [List.getElem_toArray, List.getElem_cons_zero, List.getElem_cons_succ] at l0YW l1YW l0YG l1YG
  go_wp2_with fail
  clear l0YW l1YW ltYW l0YG l1YG ltYG
  refine (held_NetResult _ y 1 w18 (unhide HG).reads (by omega) (by have := unhide HC; omega)).mono ?_
  rintro e w19 ⟨rfl, hb⟩
  replace HA0 := hide ((unhide HA0).later hb)
  replace HW := hide ((unhide HW).later hb)
  replace YW := hide ((unhide YW).keep hb)
  replace YG := hide ((unhide YG).keep hb)
  replace HG := hide ((unhide HG).later hb)
  have Zw19 : w18.heap.size ≤ w19.heap.size := hb.size
  replace HB := hide ((unhide HB).trans (hb.mono (by omega)))
  clear hb
  have l0YW := (unhide YW).at 0 _ rfl
  have l1YW := (unhide YW).at 1 _ rfl
  have ltYW : w3.heap.size < w19.heap.size := by omega
  have l0YG := (unhide YG).at 0 _ rfl
  have l1YG := (unhide YG).at 1 _ rfl
  have ltYG : w6.heap.size < w19.heap.size := by omega
  simp only [List.getElem_toArray, List.getElem_cons_zero, List.getElem_cons_succ] at l0YW l1YW l0YG l1YG
  go_wp2_with fail
  clear l0YW l1YW ltYW l0YG l1YG ltYG
  go_ret
  exact ⟨rfl, unhide HB⟩


set_option maxRecDepth 10000 in
set_option maxHeartbeats 1000000 in
theorem lawover_DropMsg (v0 : Value) (x0 : List DMsg) (x1 : Int) (w : World) (A0 : (Lay.sl Lay.tMsg).Reads w [v0] x0) (NS : 1048576 < (Lay.sl Lay.tMsg).sz x0) :
    Calls Try.prog 6 #[v0, .int .i64 x1] w fun e w' => e = .returned (.bool true) ∧ Below w.heap.size w w' := by
  obtain ⟨ao0, cp0, rfl⟩ := open_sl A0
  have HA0 := hide A0.liesIn
  clear A0
  have HB := hide (Below.refl w.heap.size w)
  go_enter Try.func6, Try.ntmps6
  go_wp2_with fail
  refine (sz_MsgS _ x0 (1048576) w (unhide HA0).reads (by omega)).mono ?_
  rintro e w1 ⟨rfl, hb⟩
  replace HA0 := hide ((unhide HA0).later hb)
  have Zw1 : w.heap.size ≤ w1.heap.size := hb.size
  replace HB := hide ((unhide HB).trans (hb.mono (by omega)))
  clear hb
  rw [szR_many (by omega)]
  go_wp2_with fail
  go_ret
  exact ⟨rfl, unhide HB⟩

end Go.Proofs.Ytkmfkaljdngigaa

namespace Go.Proofs.Ytkmfkaljdngigaa
open Go.RowKit

structure DIntResult where
  code : Int
  value : Int

def Lay.tIntResult : Lay DIntResult := Lay.via (Lay.pair Lay.int Lay.int) (fun x => (x.code, x.value)) (fun p => ⟨p.1, p.2⟩)

theorem lies_IntResult {w : World} {cs : List Value} {x : DIntResult} {bl : List Nat} : Lay.tIntResult.lies w cs x bl ↔ cs = [.int .i64 x.code, .int .i64 x.value] ∧ bl = [] ∧ (Lit.int .i64 x.code).wf = true ∧ (Lit.int .i64 x.value).wf = true := by
  constructor
  · intro h
    obtain ⟨c0_, r0_, e0_, s0_, rfl, rfl, h0, h1⟩ := h
    obtain ⟨rfl, w0, rfl⟩ := h0
    obtain ⟨rfl, w1, rfl⟩ := h1
    exact ⟨by simp, by simp, w0, w1⟩
  · rintro ⟨rfl, hbl, w0, w1⟩
    rw [hbl]
    exact ⟨[.int .i64 x.code], [.int .i64 x.value], [], [], rfl, by simp, ⟨rfl, w0, rfl⟩, ⟨rfl, w1, rfl⟩⟩

end Go.Proofs.Ytkmfkaljdngigaa

namespace Go.Proofs.Ytkmfkaljdngigaa
open Go.RowKit

theorem Box.five {lo : Nat} {x0 x1 x2 x3 x4 : Value} {T : TypeId} {W : World} {s : Nat} (h : Box lo #[x0, x1, x2, x3, x4] T W s) :
    (W.cell? ⟨s, 0, none⟩ = some x0 ∧ W.cell? ⟨s, 1, none⟩ = some x1 ∧ W.cell? ⟨s, 2, none⟩ = some x2 ∧ W.cell? ⟨s, 3, none⟩ = some x3 ∧ W.cell? ⟨s, 4, none⟩ = some x4) ∧ (∀ o, W.frozen? ⟨s, o, none⟩ = false) ∧ s < W.heap.size := by
  refine ⟨⟨?_, ?_, ?_, ?_, ?_⟩, fun o => ?_, h.lt⟩
  all_goals first | simp [World.cell?, h.2] | simp [World.frozen?, h.2]
theorem Box.alloc {lo : Nat} {cs : Array Value} {T : TypeId} {W : World} {s : Nat} (h : Box lo cs T W s) (o : Obj) : Box lo cs T (W.alloc o) s := ⟨h.1, (Below.heap_alloc W o s h.lt).trans h.2⟩

end Go.Proofs.Ytkmfkaljdngigaa

namespace Go.Proofs.Ytkmfkaljdngigaa
open Go.RowKit

theorem inC (v lo hi : Int) (w : World) :
    Calls Try.prog 47 #[.int .i64 v, .int .i64 lo, .int .i64 hi] w fun e w' => e = .returned (.bool (decide (lo ≤ v) && decide (v ≤ hi))) ∧ w' = w := by
  by_cases h1 : lo ≤ v
  · have d1 : decide (lo ≤ v) = true := by simpa using h1
    rw [d1]
    cases d2 : decide (v ≤ hi) <;>
    · go_enter Try.func47, Try.ntmps47
      go_wp2_with fail
      go_ret
      exact ⟨rfl, rfl⟩
  · have d1 : decide (lo ≤ v) = false := by simpa using h1
    rw [d1]
    go_enter Try.func47, Try.ntmps47
    go_wp2_with fail
    go_ret
    exact ⟨rfl, rfl⟩
theorem idC (x : Int) (w : World) : Calls Try.prog 78 #[.int .i64 x] w fun e w' => e = .returned (.bool (decide (1 ≤ x) && decide (x ≤ 999))) ∧ w' = w := by
  go_enter Try.func78, Try.ntmps78
  go_wp2_with fail
  refine (inC x 1 999 _).mono ?_
  rintro e w1 ⟨rfl, rfl⟩
  go_wp2_with fail
  go_ret
  exact ⟨rfl, rfl⟩

end Go.Proofs.Ytkmfkaljdngigaa

namespace Go.Proofs.Ytkmfkaljdngigaa
open Go.RowKit

theorem sessionC (x : Int) (w : World) : Calls Try.prog 79 #[.int .i64 x] w fun e w' => e = .returned (.bool (decide (1 ≤ x) && decide (x ≤ 9))) ∧ w' = w := by
  go_enter Try.func79, Try.ntmps79
  go_wp2_with fail
  refine (inC x 1 9 _).mono ?_
  rintro e w1 ⟨rfl, rfl⟩
  go_wp2_with fail
  go_ret
  exact ⟨rfl, rfl⟩

end Go.Proofs.Ytkmfkaljdngigaa

namespace Go.Proofs.Ytkmfkaljdngigaa
open Go.RowKit

set_option maxHeartbeats 400000 in
theorem implFault_len (ao : Option Addr) (n cap : Nat) (w : World) (h : n ≠ 3) :
    Calls Try.prog 94 #[.slice ao n cap] w fun e w' => e = .returned (.int .i64 1) ∧ w' = w := by
  have h3 : ((n : Int) != 3) = true := by rw [bne_iff_ne]; omega
  go_enter Try.func94, Try.ntmps94
  go_wp2
  go_ret
  exact ⟨rfl, rfl⟩

set_option maxHeartbeats 400000 in
theorem implFault_three (b off cap : Nat) (zs : List Int) (w : World) (h : zs.length = 3) (hc : ∀ j, j < 3 → w.cell? ⟨b, off + j, none⟩ = some (.int .i64 (zs.getD j 0))) :
    Calls Try.prog 94 #[.slice (some ⟨b, off, none⟩) 3 cap] w fun e w' => e = .returned (.int .i64 (vecFault zs)) ∧ w' = w := by
  go_enter Try.func94, Try.ntmps94
  go_wp2
  go_loop [10] (fun i => ∃ k : Nat, k ≤ 3 ∧ i = .int .i64 k ∧ ∀ j, j < k → partB (zs.getD j 0) = true) (fun i => 3 - (intOf i).toNat)
  case atStart => exact ⟨0, Nat.zero_le _, rfl, fun j hj => by omega⟩
  case round =>
    obtain ⟨k, hk, rfl, hg⟩ := hrel
    have HG : Hid (∀ j, j < k → partB (zs.getD j 0) = true) := hg
    have HL : Hid (zs.length = 3) := h
    clear hg h
    by_cases hlt : k < 3
    · have hcx : w.cell? ⟨b, off + k, none⟩ = some (.int .i64 (zs.getD k 0)) := hc k hlt
      obtain ⟨z, hz⟩ : ∃ z, z = zs.getD k 0 := ⟨_, rfl⟩
      rw [← hz] at hcx
      have HZ : Hid (z = zs.getD k 0) := hz
      clear hz hc
      cases hp : partB z with
      | true =>
        have hb := partB_true hp
        have HP : Hid (partB z = true) := hp
        clear hp
        obtain ⟨hb1, hb2⟩ := hb
        go_wp2
        go_round
        case rel =>
          refine ⟨k + 1, by omega, by go_num, fun j hj => ?_⟩
          by_cases hjk : j < k
          · exact HG.out j hjk
          · rw [show j = k by omega, ← HZ.out]; exact HP.out
        case measure => simp [intOf]; omega
      | false =>
        have HV : Hid (vecFault zs = 3) := vecFault_bad HL.out k hlt (by rw [← HZ.out]; exact hp)
        have hb := partB_false hp
        clear hp
        rcases hb with hb | hb
        · go_wp2
          go_ret
          exact ⟨by rw [HV.out]; rfl, rfl⟩
        · have hb1 : -1000 ≤ z := by omega
          have hd : decide (z ≤ 1000) = false := by simp; omega
          go_wp2
          go_ret
          exact ⟨by rw [HV.out]; rfl, rfl⟩
    · have HV : Hid (vecFault zs = 0) := vecFault_ok HL.out (fun j hj => HG.out j (by omega))
      go_wp2
      go_ret
      exact ⟨by rw [HV.out]; rfl, rfl⟩

set_option maxHeartbeats 400000 in
theorem modelFault_len (ao : Option Addr) (n cap : Nat) (w : World) (h : n ≠ 3) :
    Calls Try.prog 80 #[.slice ao n cap] w fun e w' => e = .returned (.int .i64 1) ∧ w' = w := by
  have h3 : ((n : Int) != 3) = true := by rw [bne_iff_ne]; omega
  go_enter Try.func80, Try.ntmps80
  go_wp2
  go_ret
  exact ⟨rfl, rfl⟩

set_option maxHeartbeats 400000 in
theorem modelFault_three (b off cap : Nat) (zs : List Int) (w : World) (h : zs.length = 3) (hc : ∀ j, j < 3 → w.cell? ⟨b, off + j, none⟩ = some (.int .i64 (zs.getD j 0))) :
    Calls Try.prog 80 #[.slice (some ⟨b, off, none⟩) 3 cap] w fun e w' => e = .returned (.int .i64 (vecFault zs)) ∧ w' = w := by
  go_enter Try.func80, Try.ntmps80
  go_wp2
  go_loop [3] (fun i => ∃ k : Nat, k ≤ 3 ∧ i = .int .i64 k ∧ ∀ j, j < k → partB (zs.getD j 0) = true) (fun i => 3 - (intOf i).toNat)
  case atStart => exact ⟨0, Nat.zero_le _, rfl, fun j hj => by omega⟩
  case round =>
    obtain ⟨k, hk, rfl, hg⟩ := hrel
    have HG : Hid (∀ j, j < k → partB (zs.getD j 0) = true) := hg
    have HL : Hid (zs.length = 3) := h
    clear hg h
    by_cases hlt : k < 3
    · have hcx : w.cell? ⟨b, off + k, none⟩ = some (.int .i64 (zs.getD k 0)) := hc k hlt
      obtain ⟨z, hz⟩ : ∃ z, z = zs.getD k 0 := ⟨_, rfl⟩
      rw [← hz] at hcx
      have HZ : Hid (z = zs.getD k 0) := hz
      clear hz hc
      cases hp : partB z with
      | true =>
        have hb := partB_true hp
        have HP : Hid (partB z = true) := hp
        clear hp
        obtain ⟨hb1, hb2⟩ := hb
        go_wp2
        go_round
        case rel =>
          refine ⟨k + 1, by omega, by go_num, fun j hj => ?_⟩
          by_cases hjk : j < k
          · exact HG.out j hjk
          · rw [show j = k by omega, ← HZ.out]; exact HP.out
        case measure => simp [intOf]; omega
      | false =>
        have HV : Hid (vecFault zs = 3) := vecFault_bad HL.out k hlt (by rw [← HZ.out]; exact hp)
        have hb := partB_false hp
        clear hp
        rcases hb with hb | hb
        · go_wp2
          go_ret
          exact ⟨by rw [HV.out]; rfl, rfl⟩
        · have hb1 : -1000 ≤ z := by omega
          have hd : decide (z ≤ 1000) = false := by simp; omega
          go_wp2
          go_ret
          exact ⟨by rw [HV.out]; rfl, rfl⟩
    · have HV : Hid (vecFault zs = 0) := vecFault_ok HL.out (fun j hj => HG.out j (by omega))
      go_wp2
      go_ret
      exact ⟨by rw [HV.out]; rfl, rfl⟩


/-- VecFault of the program. -/
theorem implFault (v : Value) (zs : List Int) (w : World) (h : IsInts w v zs) :
    Calls Try.prog 94 #[v] w fun e w' => e = .returned (.int .i64 (vecFault zs)) ∧ w' = w := by
  obtain ⟨ao, cap, rfl, hwf, hc⟩ := h
  by_cases h3 : zs.length = 3
  · obtain ⟨b, off, rfl, hc1⟩ := hc (by omega)
    rw [h3] at hc1 ⊢
    exact implFault_three b off cap zs w h3 hc1
  · rw [vecFault_len h3]
    exact implFault_len ao zs.length cap w h3

/-- VecFault of the model. -/
theorem modelFault (v : Value) (zs : List Int) (w : World) (h : IsInts w v zs) :
    Calls Try.prog 80 #[v] w fun e w' => e = .returned (.int .i64 (vecFault zs)) ∧ w' = w := by
  obtain ⟨ao, cap, rfl, hwf, hc⟩ := h
  by_cases h3 : zs.length = 3
  · obtain ⟨b, off, rfl, hc1⟩ := hc (by omega)
    rw [h3] at hc1 ⊢
    exact modelFault_three b off cap zs w h3 hc1
  · rw [vecFault_len h3]
    exact modelFault_len ao zs.length cap w h3

end Go.Proofs.Ytkmfkaljdngigaa
