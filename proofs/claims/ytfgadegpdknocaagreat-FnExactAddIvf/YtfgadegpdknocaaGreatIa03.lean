/-
  Texts of this proof in one: EqIvfListS, EqIvf, OwnIvf, OwnCenter, LayMark, MaCenterS, OwnIvfList, MaItemS, MaIvfListS, MaIvf, LayIvfResult, EqIvfResult, OwnIvfResult, MaIvfResult, MkCenterS, MkItemS, MkIvfListS, MkIvf, MkIvfResult.
  Their conditions stand in their theorems.
-/
import Derived.Test.YtfgadegpdknocaaGreatChecked
import Derived.Test.YtfgadegpdknocaaGreatIa01
import Derived.Test.YtfgadegpdknocaaGreatIa02
import Derived.Deep.RegionHeld3

namespace Go.Proofs.YtfgadegpdknocaaGreat
open Go.RowKit

set_option maxRecDepth 100000 in
set_option maxHeartbeats 2000000 in
theorem eq_IvfListS (v v2 : Value) (xs : List DIvfList) (w : World) (h : (Lay.sl Lay.tIvfList).Reads w [v] xs) (h2 : (Lay.sl Lay.tIvfList).Reads w [v2] xs) :
    Calls Tryz.prog 52 #[v, v2] w fun e w' => e = .returned (.bool true) ∧ Below w.heap.size w w' := by
  have hbig := h.big
  obtain ⟨ao, cap, rfl⟩ := open_sl h
  obtain ⟨ao2, cap2, rfl⟩ := open_sl h2
  by_cases hp : 0 < xs.length
  · obtain ⟨b, off, rfl, hbl⟩ := Lay.sl_addr h hp
    obtain ⟨b2, off2, rfl, hbl2⟩ := Lay.sl_addr h2 hp
    have H := hide h
    have H2 := hide h2
    clear h h2
    go_enter Tryz.func52, Tryz.ntmps52
    go_wp2_with fail
    go_loopw [5] (fun i wr => ∃ k : Nat, k ≤ xs.length ∧ i = .int .i64 k ∧ Below w.heap.size w wr) (fun i _ => xs.length - (intOf i).toNat)
    case atStart => exact ⟨0, Nat.zero_le _, rfl, Below.refl _ _⟩
    case round =>
      obtain ⟨k, hk, rfl, hB⟩ := hrel
      by_cases hlt : k < xs.length
      · obtain ⟨row, hc, hr⟩ := Lay.row_at (unhide H) hlt
        obtain ⟨rowz, hcz, hrz⟩ := Lay.row_at (unhide H2) hlt
        have hr2 := hr
        obtain ⟨a0, d0, rfl, -⟩ := open_IvfList hr2
        have hrz2 := hrz
        obtain ⟨a0z, d0z, rfl, -⟩ := open_IvfList hrz2
        have c0 : w.cell? ⟨b, off + k, none⟩ = some (.slice a0 (xs[k]).items.length d0) := ((Below.refl w.heap.size w).cell (p := ⟨b, off + k, none⟩) hbl).trans (by have q1 : w.cell? ⟨b, off + k * 1 + 0, none⟩ = some (.slice a0 (xs[k]).items.length d0) := hc 0 (by decide); rw [Nat.mul_one, Nat.add_zero] at q1; exact q1)
        have c0z : w.cell? ⟨b2, off2 + k, none⟩ = some (.slice a0z (xs[k]).items.length d0z) := ((Below.refl w.heap.size w).cell (p := ⟨b2, off2 + k, none⟩) hbl2).trans (by have q1 : w.cell? ⟨b2, off2 + k * 1 + 0, none⟩ = some (.slice a0z (xs[k]).items.length d0z) := hcz 0 (by decide); rw [Nat.mul_one, Nat.add_zero] at q1; exact q1)
        clear hc hcz
        have HR := hide hr
        have HRZ := hide hrz
        clear hr hrz
        have HB := hide hB
        clear hB
        generalize hxk : xs[k] = x at *
        clear hxk
        have i1 : (0 : Int) ≤ (k : Int) := by omega
        have i2 : (k : Int) < (xs.length : Int) := by omega
        go_wp2_with fail
        refine wp_region_noPanic ?_
        refine wp_region_held_drew (S := fun w' => Below w.heap.size w w') (by kernel_rfl) (unhide HB).drew (fun hHeld => ?_)
        generalize wr.drew = wD at hHeld ⊢
        refine wpAnyH_take (i := 0) (oi := { dst := some 17, op := Go.Op.move (Go.Operand.tmp 0), type := 29, pos := "exact.go:774", after := #[], guard := none }) (v := ?v0) rfl (by kernel_rfl) (by kernel_rfl) (by kernel_rfl) (fun _ _ _ h => h) (Or.inl ⟨by rfl, ?h0⟩) hHeld ?r0
        case h0 =>
          intro wS hSw
          (try dsimp only at hSw)
          go_simp
          try with_reducible rfl
        case r0 =>
        simp only [Act.put, List.setIfInBounds_toArray, List.set_cons_zero, List.set_cons_succ]
        refine wpAnyH_take (i := 1) (oi := { dst := some 18, op := Go.Op.move (Go.Operand.tmp 5), type := 3, pos := "exact.go:774", after := #[], guard := none }) (v := ?v1) rfl (by kernel_rfl) (by kernel_rfl) (by kernel_rfl) (fun _ _ _ h => h) (Or.inl ⟨by rfl, ?h1⟩) hHeld ?r1
        case h1 =>
          intro wS hSw
          (try dsimp only at hSw)
          go_simp
          try with_reducible rfl
        case r1 =>
        simp only [Act.put, List.setIfInBounds_toArray, List.set_cons_zero, List.set_cons_succ]
        refine wpAnyH_take (i := 2) (oi := { dst := some 19, op := Go.Op.indexAddr 29 (Go.Operand.tmp 17) (Go.Operand.tmp 18), type := 0, pos := "exact.go:774", after := #[{ on := 0, ground := Go.Ground.data }, { on := 1, ground := Go.Ground.data }], guard := none }) (v := ?v2) rfl (by kernel_rfl) (by kernel_rfl) (by kernel_rfl) (fun _ _ _ h => h) (Or.inl ⟨by rfl, ?h2⟩) hHeld ?r2
        case h2 =>
          intro wS hSw
          (try dsimp only at hSw)
          go_simp
          try with_reducible rfl
        case r2 =>
        simp only [Act.put, List.setIfInBounds_toArray, List.set_cons_zero, List.set_cons_succ]
        refine wpAnyH_take (i := 3) (oi := { dst := some 20, op := Go.Op.load 104 (Go.Operand.tmp 19), type := 104, pos := "exact.go:774", after := #[{ on := 2, ground := Go.Ground.data }], guard := none }) (v := ?v3) rfl (by kernel_rfl) (by kernel_rfl) (by kernel_rfl) (fun _ _ _ h => h) (Or.inl ⟨by rfl, ?h3⟩) hHeld ?r3
        case h3 =>
          intro wS hSw
          have y0 := (hSw.cell (p := ⟨b, off + k, none⟩) hbl).trans c0
          clear hSw
          (try dsimp only at hSw)
          go_simp
          try with_reducible rfl
        case r3 =>
        simp only [Act.put, List.setIfInBounds_toArray, List.set_cons_zero, List.set_cons_succ]
        refine wpAnyH_take (i := 4) (oi := { dst := some 21, op := Go.Op.move (Go.Operand.tmp 1), type := 29, pos := "exact.go:774", after := #[], guard := none }) (v := ?v4) rfl (by kernel_rfl) (by kernel_rfl) (by kernel_rfl) (fun _ _ _ h => h) (Or.inl ⟨by rfl, ?h4⟩) hHeld ?r4
        case h4 =>
          intro wS hSw
          (try dsimp only at hSw)
          go_simp
          try with_reducible rfl
        case r4 =>
        simp only [Act.put, List.setIfInBounds_toArray, List.set_cons_zero, List.set_cons_succ]
        refine wpAnyH_take (i := 5) (oi := { dst := some 22, op := Go.Op.move (Go.Operand.tmp 5), type := 3, pos := "exact.go:774", after := #[], guard := none }) (v := ?v5) rfl (by kernel_rfl) (by kernel_rfl) (by kernel_rfl) (fun _ _ _ h => h) (Or.inl ⟨by rfl, ?h5⟩) hHeld ?r5
        case h5 =>
          intro wS hSw
          (try dsimp only at hSw)
          go_simp
          try with_reducible rfl
        case r5 =>
        simp only [Act.put, List.setIfInBounds_toArray, List.set_cons_zero, List.set_cons_succ]
        refine wpAnyH_take (i := 6) (oi := { dst := some 23, op := Go.Op.indexAddr 29 (Go.Operand.tmp 21) (Go.Operand.tmp 22), type := 0, pos := "exact.go:774", after := #[{ on := 4, ground := Go.Ground.data }, { on := 5, ground := Go.Ground.data }], guard := none }) (v := ?v6) rfl (by kernel_rfl) (by kernel_rfl) (by kernel_rfl) (fun _ _ _ h => h) (Or.inl ⟨by rfl, ?h6⟩) hHeld ?r6
        case h6 =>
          intro wS hSw
          (try dsimp only at hSw)
          go_simp
          try with_reducible rfl
        case r6 =>
        simp only [Act.put, List.setIfInBounds_toArray, List.set_cons_zero, List.set_cons_succ]
        refine wpAnyH_take (i := 7) (oi := { dst := some 24, op := Go.Op.load 104 (Go.Operand.tmp 23), type := 104, pos := "exact.go:774", after := #[{ on := 6, ground := Go.Ground.data }], guard := none }) (v := ?v7) rfl (by kernel_rfl) (by kernel_rfl) (by kernel_rfl) (fun _ _ _ h => h) (Or.inl ⟨by rfl, ?h7⟩) hHeld ?r7
        case h7 =>
          intro wS hSw
          have y0z := (hSw.cell (p := ⟨b2, off2 + k, none⟩) hbl2).trans c0z
          clear hSw
          (try dsimp only at hSw)
          go_simp
          try with_reducible rfl
        case r7 =>
        simp only [Act.put, List.setIfInBounds_toArray, List.set_cons_zero, List.set_cons_succ]
        refine wpAnyH_ready (rs := [8]) (by kernel_rfl) (by simp) ?_
        refine AllReadyH.cons (o := { dst := some 25, op := Go.Op.call { callee := Go.Callee.value (Go.Operand.func 97), args := #[Go.Operand.tmp 20, Go.Operand.tmp 24], argTypes := #[104, 104] }, type := 4, pos := "exact.go:774", after := #[{ on := 3, ground := Go.Ground.data }, { on := 7, ground := Go.Ground.data }], guard := none }) rfl (fun K hK => ?_) AllReadyH.nil
        go_simp
        go_at_call 97
        refine (eq_IvfList _ _ x _ ((unhide HR).later hHeld) ((unhide HRZ).later hHeld)).mono ?_
        rintro e w3 ⟨rfl, hbw⟩
        try go_wp2_with fail
        refine hK.out _ _ (hHeld.trans (hbw.mono hHeld.size)) (fun hHeld => ?_)
        clear hK K
        try simp only [Act.put, List.setIfInBounds_toArray, List.set_cons_zero, List.set_cons_succ]
        refine wpAnyH_take (i := 9) (oi := { dst := some 26, op := Go.Op.unOp Go.UnOp.not 4 (Go.Operand.tmp 25), type := 4, pos := "exact.go:774", after := #[{ on := 8, ground := Go.Ground.data }], guard := none }) (v := ?v9) rfl (by kernel_rfl) (by kernel_rfl) (by kernel_rfl) (fun _ _ _ h => h) (Or.inl ⟨by rfl, ?h9⟩) hHeld ?r9
        case h9 =>
          intro wS hSw
          (try dsimp only at hSw)
          go_simp
          try with_reducible rfl
        case r9 =>
        simp only [Act.put, List.setIfInBounds_toArray, List.set_cons_zero, List.set_cons_succ]
        refine wpAnyH_done (by kernel_rfl) ?_ _
        refine NoPanic.normal ?_
        have HB3 := hide hHeld
        clear hHeld c0 c0z HB
        go_wp2_with fail
        go_roundw
        case rel => exact ⟨k + 1, by omega, by go_num, unhide HB3⟩
        case measure => simp [intOf]; omega
      · have HB := hide hB
        clear hB
        go_wp2_with fail
        go_ret
        exact ⟨rfl, unhide HB⟩
  · obtain rfl : xs = [] := List.eq_nil_of_length_eq_zero (by omega)
    clear h h2 hp
    simp only [List.length_nil] at *
    go_enter Tryz.func52, Tryz.ntmps52
    go_wp2_with fail
    refine wp_loop_rounds 1 ?_
    rw [rounds_succ]
    go_wp2_with fail
    go_ret
    exact ⟨rfl, Below.refl _ _⟩

end Go.Proofs.YtfgadegpdknocaaGreat

namespace Go.Proofs.YtfgadegpdknocaaGreat
open Go.RowKit

set_option maxRecDepth 10000 in
set_option maxHeartbeats 1000000 in
theorem eq_Ivf (cs cs2 : List Value) (x : DIvf) (w : World) (h : Lay.tIvf.Reads w cs x) (h2 : Lay.tIvf.Reads w cs2 x) :
    Calls Tryz.prog 13 #[.agg cs.toArray, .agg cs2.toArray] w fun e w' => e = .returned (.bool true) ∧ Below w.heap.size w w' := by
  obtain ⟨a0, d0, a1, d1, rfl, R0, R1⟩ := open_Ivf h
  obtain ⟨a0z, d0z, a1z, d1z, rfl, R0z, R1z⟩ := open_Ivf h2
  clear h h2
  have HB0 : Below w.heap.size w ((w.alloc (.cells #[.slice a0 x.centers.length d0, .slice a1 x.lists.length d1] 31)).alloc (.cells #[.slice a0z x.centers.length d0z, .slice a1z x.lists.length d1z] 31)) := ((Below.refl _ _).alloc (Nat.le_refl _) _).alloc (by simp) _
  have bA : Box w.heap.size #[.slice a0 x.centers.length d0, .slice a1 x.lists.length d1] 31 ((w.alloc (.cells #[.slice a0 x.centers.length d0, .slice a1 x.lists.length d1] 31)).alloc (.cells #[.slice a0z x.centers.length d0z, .slice a1z x.lists.length d1z] 31)) w.heap.size := (newBox (Nat.le_refl _)).grow _
  have bC : Box w.heap.size #[.slice a0z x.centers.length d0z, .slice a1z x.lists.length d1z] 31 ((w.alloc (.cells #[.slice a0 x.centers.length d0, .slice a1 x.lists.length d1] 31)).alloc (.cells #[.slice a0z x.centers.length d0z, .slice a1z x.lists.length d1z] 31)) (w.heap.size + 1) := newBoxAt (by omega) (by simp)
  go_enter Tryz.func13, Tryz.ntmps13
  go_wp2_with fail
  generalize (w.alloc (.cells #[.slice a0 x.centers.length d0, .slice a1 x.lists.length d1] 31)).alloc (.cells #[.slice a0z x.centers.length d0z, .slice a1z x.lists.length d1z] 31) = W0 at *
  replace R0 := R0.later HB0
  replace R0z := R0z.later HB0
  replace R1 := R1.later HB0
  replace R1z := R1z.later HB0
  refine (eq_CenterS _ _ x.centers _ R0 R0z).mono ?_
  rintro e w1 ⟨rfl, hb⟩
  replace bA := bA.keep hb
  replace bC := bC.keep hb
  replace HB0 := HB0.trans (hb.mono HB0.size)
  replace R1 := R1.later hb
  replace R1z := R1z.later hb
  have p1 := bA.at 1 _ rfl
  have q1 := bC.at 1 _ rfl
  clear hb
  have HB := hide HB0
  have HA := hide bA
  have HC := hide bC
  clear HB0 bA bC
  have S1 := hide R1
  have S1z := hide R1z
  clear R1 R1z
  go_wp2_with fail
  have HB0 := unhide HB
  have bA := unhide HA
  have bC := unhide HC
  clear HB HA HC
  clear p1 q1
  have R1 := unhide S1
  have R1z := unhide S1z
  clear S1 S1z
  refine (eq_IvfListS _ _ x.lists _ R1 R1z).mono ?_
  rintro e w2 ⟨rfl, hb⟩
  replace bA := bA.keep hb
  replace bC := bC.keep hb
  replace HB0 := HB0.trans (hb.mono HB0.size)
  clear hb
  have HB := hide HB0
  have HA := hide bA
  have HC := hide bC
  clear HB0 bA bC
  go_wp2_with fail
  go_ret
  exact ⟨rfl, unhide HB⟩

end Go.Proofs.YtfgadegpdknocaaGreat

namespace Go.Proofs.YtfgadegpdknocaaGreat
open Go.RowKit

theorem vcnt_Ivf (x : DIvf) : Lay.tIvf.vcnt x = (Lay.sl Lay.tCenter).vcnt x.centers + (Lay.sl Lay.tIvfList).vcnt x.lists := by
  show (Lay.sl Lay.tCenter).vcnt x.centers + ((Lay.sl Lay.tIvfList).vcnt x.lists) = (Lay.sl Lay.tCenter).vcnt x.centers + (Lay.sl Lay.tIvfList).vcnt x.lists
  omega
theorem mkv_Ivf (k : Int) (x : DIvf) : Lay.tIvf.mkv k x = ⟨(Lay.sl Lay.tCenter).mkv (k) x.centers, (Lay.sl Lay.tIvfList).mkv (k + ((Lay.sl Lay.tCenter).vcnt x.centers : Int)) x.lists⟩ := by
  simp [Lay.tIvf, Lay.via, Lay.pair]
theorem own_Ivf {w : World} {cs : List Value} {x : DIvf} {bl : List Nat} (h : Lay.tIvf.Own w cs x bl) : ∃ (a0 : Option Addr) (d0 : Nat) (a1 : Option Addr) (d1 : Nat) (g0 : List Nat) (g1 : List Nat), cs = [.slice a0 x.centers.length d0, .slice a1 x.lists.length d1] ∧ bl = g0 ++ g1 ∧ (Lay.sl Lay.tCenter).Own w [.slice a0 x.centers.length d0] x.centers g0 ∧ (Lay.sl Lay.tIvfList).Own w [.slice a1 x.lists.length d1] x.lists g1 := by
  obtain ⟨hl, hn, hf⟩ := h
  obtain ⟨a0, d0, b0, a1, d1, b1, rfl, hbl, l0, l1⟩ := lies_Ivf.1 hl
  rw [hbl] at hn hf
  simp only [List.nodup_append, List.mem_append] at hn hf
  exact ⟨a0, d0, a1, d1, b0, b1, rfl, hbl, ⟨l0, by simp_all, fun b hb => hf b (by simp_all)⟩, ⟨l1, by simp_all, fun b hb => hf b (by simp_all)⟩⟩
theorem mkOwn_Ivf {w : World} {x : DIvf} {c0 : List Value} {c1 : List Value} {g0 : List Nat} {g1 : List Nat} (O0 : (Lay.sl Lay.tCenter).Own w c0 x.centers g0) (O1 : (Lay.sl Lay.tIvfList).Own w c1 x.lists g1) (hn : (g0 ++ g1).Nodup) : Lay.tIvf.Own w (c0 ++ c1) x (g0 ++ g1) := by
  refine ⟨⟨c0, c1, g0, g1, rfl, by simp, O0.1, O1.1⟩, hn, ?_⟩
  intro b hb o
  simp only [List.mem_append] at hb
  rcases hb with hb | hb
  · exact O0.2.2 b hb o
  · exact O1.2.2 b hb o

end Go.Proofs.YtfgadegpdknocaaGreat

namespace Go.Proofs.YtfgadegpdknocaaGreat
open Go.RowKit

theorem vcnt_Center (x : DCenter) : Lay.tCenter.vcnt x = (Lay.sl Lay.int).vcnt x.vec := by
  show (Lay.sl Lay.int).vcnt x.vec = (Lay.sl Lay.int).vcnt x.vec
  omega
theorem mkv_Center (k : Int) (x : DCenter) : Lay.tCenter.mkv k x = ⟨(Lay.sl Lay.int).mkv (k) x.vec⟩ := by
  simp [Lay.tCenter, Lay.via]
theorem own_Center {w : World} {cs : List Value} {x : DCenter} {bl : List Nat} (h : Lay.tCenter.Own w cs x bl) : ∃ (a0 : Option Addr) (d0 : Nat) (g0 : List Nat), cs = [.slice a0 x.vec.length d0] ∧ bl = g0 ∧ (Lay.sl Lay.int).Own w [.slice a0 x.vec.length d0] x.vec g0 := by
  obtain ⟨hl, hn, hf⟩ := h
  obtain ⟨a0, d0, b0, rfl, hbl, l0⟩ := lies_Center.1 hl
  rw [hbl] at hn hf
  exact ⟨a0, d0, b0, rfl, hbl, ⟨l0, hn, hf⟩⟩
theorem mkOwn_Center {w : World} {x : DCenter} {c0 : List Value} {g0 : List Nat} (O0 : (Lay.sl Lay.int).Own w c0 x.vec g0) (hn : (g0).Nodup) : Lay.tCenter.Own w (c0) x (g0) := by
  refine ⟨O0.1, hn, ?_⟩
  intro b hb o
  exact O0.2.2 b hb o

end Go.Proofs.YtfgadegpdknocaaGreat

namespace Go.Proofs.YtfgadegpdknocaaGreat
open Go.RowKit

theorem cnt_ints (zs : List Int) : (Lay.sl Lay.int).cnt zs = zs.length := by
  show cntAll (fun _ => 1) zs = zs.length
  induction zs with
  | nil => rfl
  | cons z zs ih => simp [cntAll, ih]; omega
theorem vcnt_ints (zs : List Int) : (Lay.sl Lay.int).vcnt zs = zs.length := cnt_ints zs
theorem mkAll_len {α : Type} (cnt : α → Nat) (mk : Int → α → α) (k : Int) (xs : List α) : (mkAll cnt mk k xs).length = xs.length := by
  induction xs generalizing k with
  | nil => rfl
  | cons x xs ih => simp [mkAll, ih]
theorem mk_ints_at (k : Int) (zs : List Int) (j : Nat) (h : j < zs.length) : ((Lay.sl Lay.int).mkv k zs).getD j 0 = k + j := by
  show (mkAll (fun _ => 1) (fun k _ => k) k zs).getD j 0 = k + j
  induction zs generalizing k j with
  | nil => simp at h
  | cons z zs ih =>
    match j with
    | 0 => simp [mkAll]
    | j + 1 =>
      have := ih (k + 1) j (by simpa using h)
      simp only [mkAll, List.getD_cons_succ]
      rw [show ((1 : Nat) : Int) = 1 from rfl, this]
      omega
theorem mk_ints_len (k : Int) (zs : List Int) : ((Lay.sl Lay.int).mkv k zs).length = zs.length := mkAll_len _ _ _ _
theorem mk_ints_wf (k : Int) (zs : List Int) (hk : 0 ≤ k) (hk2 : k + zs.length ≤ 1000000000) : ∀ z ∈ (Lay.sl Lay.int).mkv k zs, (Lit.int .i64 z).wf = true := by
  intro z hz
  obtain ⟨j, hj, rfl⟩ := List.mem_iff_getElem.1 hz
  have hj' := hj
  rw [mk_ints_len] at hj'
  have := mk_ints_at k zs j hj'
  have e : ((Lay.sl Lay.int).mkv k zs)[j] = k + j := by simpa [List.getD, hj] using this
  rw [e]
  exact wf_of_bd (by omega)

set_option maxHeartbeats 400000 in
theorem markI_pos (b off cap : Nat) (zs : List Int) (k : Int) (w : World) (hk : 0 ≤ k) (hk2 : k + zs.length ≤ 1000000000) (hc : ∀ j, j < zs.length → w.cell? ⟨b, off + j, none⟩ = some (.int .i64 (zs.getD j 0)))
    (hf : ∀ o, w.frozen? ⟨b, o, none⟩ = false) :
    Calls Tryz.prog 16 #[.slice (some ⟨b, off, none⟩) zs.length cap, .int .i64 k] w fun e w' => e = .returned (.int .i64 (k + zs.length)) ∧
      (∀ j, j < zs.length → w'.cell? ⟨b, off + j, none⟩ = some (.int .i64 (k + j))) ∧ (∀ o, w'.frozen? ⟨b, o, none⟩ = false) ∧ (∀ o, (o < off ∨ off + zs.length ≤ o) → w'.cell? ⟨b, o, none⟩ = w.cell? ⟨b, o, none⟩) ∧ Ext (fun q => q = b) w w' := by
  go_enter Tryz.func16, Tryz.ntmps16
  go_wp2
  go_loopw [1, 5] (fun kk i wr => ∃ j : Nat, j ≤ zs.length ∧ i = .int .i64 j ∧ kk = .int .i64 (k + j) ∧ (∀ m, m < j → wr.cell? ⟨b, off + m, none⟩ = some (.int .i64 (k + m))) ∧ (∀ o, wr.frozen? ⟨b, o, none⟩ = false) ∧ (∀ o, (o < off ∨ off + j ≤ o) → wr.cell? ⟨b, o, none⟩ = w.cell? ⟨b, o, none⟩) ∧ Ext (fun q => q = b) w wr)
    (fun _ i _ => zs.length - (intOf i).toNat)
  case atStart => exact ⟨0, Nat.zero_le _, rfl, by simp, fun m hm => by omega, hf, fun _ _ => rfl, Ext.refl _ _⟩
  case round =>
    obtain ⟨j, hj, rfl, rfl, hm, hfz, ho, hx⟩ := hrel
    by_cases hlt : j < zs.length
    · have hcd : wr.cell? ⟨b, off + j, none⟩ = some (.int .i64 (zs.getD j 0)) := (ho (off + j) (by omega)).trans (hc j hlt)
      have hfj := hfz (off + j)
      have HM : Hid (∀ m, m < j + 1 → (wr.setCell ⟨b, off + j, none⟩ (.int .i64 (k + j))).cell? ⟨b, off + m, none⟩ = some (.int .i64 (k + m))) := by
        intro m hm1
        by_cases e : m = j
        · subst e
          exact World.cell?_setCell_same _ _ _ hcd
        · rw [World.cell?_setCell_other _ _ _ _ (fun q => by have := congrArg Addr.off q; simp only at this; omega)]
          exact hm m (by omega)
      have HF : Hid (∀ o, (wr.setCell ⟨b, off + j, none⟩ (.int .i64 (k + j))).frozen? ⟨b, o, none⟩ = false) := fun o => by simpa using hfz o
      have HO : Hid (∀ o, (o < off ∨ off + (j + 1) ≤ o) → (wr.setCell ⟨b, off + j, none⟩ (.int .i64 (k + j))).cell? ⟨b, o, none⟩ = w.cell? ⟨b, o, none⟩) := by
        intro o hoo
        rw [World.cell?_setCell_other _ _ _ _ (fun q => by have := congrArg Addr.off q; simp only at this; omega)]
        exact ho o (by omega)
      have HX := hide (hx.setCell ⟨b, off + j, none⟩ (.int .i64 (k + j)) rfl)
      clear hm hfz ho hx hc hf
      go_wp2
      go_roundw
      case rel => exact ⟨j + 1, by omega, by go_num, by go_num, unhide HM, unhide HF, unhide HO, unhide HX⟩
      case measure => simp [intOf]; omega
    · obtain rfl : j = zs.length := by omega
      have HM := hide hm
      have HF := hide hfz
      have HO := hide ho
      have HX := hide hx
      clear hm hfz ho hx hc hf
      go_wp2
      go_ret
      exact ⟨rfl, unhide HM, unhide HF, unhide HO, unhide HX⟩

theorem markI_zero (ao : Option Addr) (cap : Nat) (k : Int) (w : World) :
    Calls Tryz.prog 16 #[.slice ao 0 cap, .int .i64 k] w fun e w' => e = .returned (.int .i64 k) ∧ w' = w := by
  go_enter Tryz.func16, Tryz.ntmps16
  go_wp2
  refine wp_loop_rounds 1 ?_
  rw [rounds_succ]
  go_wp2
  go_ret
  exact ⟨rfl, rfl⟩

/-- markInt64S. -/
theorem mark_Int64S (v : Value) (zs : List Int) (bl : List Nat) (k : Int) (w : World) (h : (Lay.sl Lay.int).Own w [v] zs bl) (hk : 0 ≤ k) (hk2 : k + (Lay.sl Lay.int).vcnt zs ≤ 1000000000) :
    Calls Tryz.prog 16 #[v, .int .i64 k] w fun e w' => e = .returned (.int .i64 (k + (Lay.sl Lay.int).vcnt zs)) ∧ (Lay.sl Lay.int).Own w' [v] ((Lay.sl Lay.int).mkv k zs) bl ∧ Ext (fun q => q ∈ bl) w w' := by
  obtain ⟨hl, hn, hf⟩ := h
  rw [vcnt_ints] at hk2 ⊢
  rcases Lay.lies_ints.1 hl with ⟨ao, cap, rfl, hbig, hwf, ⟨rfl, rfl⟩ | ⟨b, off, rfl, hb, rfl, hc⟩⟩
  · refine (markI_zero ao cap k w).mono ?_
    rintro e w' ⟨rfl, rfl⟩
    exact ⟨by simp, ⟨hl, hn, hf⟩, Ext.refl _ _⟩
  · refine (markI_pos b off cap zs k w hk hk2 hc (hf b (by simp))).mono ?_
    rintro e w' ⟨rfl, hm, hfz, -, hx⟩
    refine ⟨rfl, ⟨Lay.lies_ints.2 ⟨_, cap, by rw [mk_ints_len], by rw [mk_ints_len]; exact hbig, mk_ints_wf k zs hk hk2, Or.inr ⟨b, off, rfl, Nat.lt_of_lt_of_le hb hx.size, rfl, fun j hj => ?_⟩⟩, hn, ?_⟩, hx.mono fun q _ e => by simp [e]⟩
    · rw [mk_ints_len] at hj
      rw [hm j hj, mk_ints_at k zs j hj]
    · intro b' hb' o
      obtain rfl : b' = b := by simpa using hb'
      exact hfz o

set_option maxHeartbeats 400000 in
theorem heldI_pos (b off cap n : Nat) (k : Int) (w : World) (hk : 0 ≤ k) (hk2 : k + n ≤ 1000000000) (hc : ∀ j, j < n → w.cell? ⟨b, off + j, none⟩ = some (.int .i64 (k + j))) :
    Calls Tryz.prog 129 #[.slice (some ⟨b, off, none⟩) n cap, .int .i64 k] w fun e w' => e = .returned (.int .i64 (k + n)) ∧ w' = w := by
  go_enter Tryz.func129, Tryz.ntmps129
  go_wp2
  go_loop [1, 5] (fun kk i => ∃ j : Nat, j ≤ n ∧ i = .int .i64 j ∧ kk = .int .i64 (k + j)) (fun _ i => n - (intOf i).toNat)
  case atStart => exact ⟨0, Nat.zero_le _, rfl, by simp⟩
  case round =>
    obtain ⟨j, hj, rfl, rfl⟩ := hrel
    by_cases hlt : j < n
    · have hcx := hc j hlt
      have hne : ((k + (j : Int)) != (k + (j : Int))) = false := by simp
      clear hc
      go_wp2
      go_round
      case rel => exact ⟨j + 1, by omega, by go_num, by go_num⟩
      case measure => simp [intOf]; omega
    · obtain rfl : j = n := by omega
      clear hc
      go_wp2
      go_ret
      exact ⟨rfl, rfl⟩
theorem heldI_zero (ao : Option Addr) (cap : Nat) (k : Int) (w : World) :
    Calls Tryz.prog 129 #[.slice ao 0 cap, .int .i64 k] w fun e w' => e = .returned (.int .i64 k) ∧ w' = w := by
  go_enter Tryz.func129, Tryz.ntmps129
  go_wp2
  refine wp_loop_rounds 1 ?_
  rw [rounds_succ]
  go_wp2
  go_ret
  exact ⟨rfl, rfl⟩
/-- heldInt64S. -/
theorem held_Int64S (v : Value) (zs : List Int) (k : Int) (w : World) (h : (Lay.sl Lay.int).Reads w [v] ((Lay.sl Lay.int).mkv k zs)) (hk : 0 ≤ k) (hk2 : k + (Lay.sl Lay.int).vcnt zs ≤ 1000000000) :
    Calls Tryz.prog 129 #[v, .int .i64 k] w fun e w' => e = .returned (.int .i64 (k + (Lay.sl Lay.int).vcnt zs)) ∧ Below w.heap.size w w' := by
  rw [vcnt_ints] at hk2 ⊢
  obtain ⟨ao, cap, rfl, hwf, hc⟩ := Lay.ints_reads h
  rw [mk_ints_len] at hc ⊢
  by_cases hp : 0 < zs.length
  · obtain ⟨b, off, rfl, hc1⟩ := hc hp
    refine (heldI_pos b off cap zs.length k w hk hk2 fun j hj => by rw [hc1 j hj, mk_ints_at k zs j hj]).mono ?_
    rintro e w' ⟨rfl, rfl⟩
    exact ⟨rfl, Below.refl _ _⟩
  · have e0 : zs.length = 0 := by omega
    rw [e0]
    refine (heldI_zero ao cap k w).mono ?_
    rintro e w' ⟨rfl, rfl⟩
    exact ⟨by simp, Below.refl _ _⟩

end Go.Proofs.YtfgadegpdknocaaGreat

namespace Go.Proofs.YtfgadegpdknocaaGreat
open Go.RowKit

theorem cnt_Center (x : DCenter) : Lay.tCenter.cnt x = 0 + (Lay.sl Lay.int).vcnt x.vec := by
  show (Lay.sl Lay.int).vcnt x.vec = 0 + (Lay.sl Lay.int).vcnt x.vec
  omega
theorem mkd_Center (k : Int) (x : DCenter) : Lay.tCenter.mkd k x = ⟨(Lay.sl Lay.int).mkv (k) x.vec⟩ := rfl
theorem vcnt_CenterS (xs : List DCenter) : (Lay.sl Lay.tCenter).vcnt xs = cntAll Lay.tCenter.cnt xs := rfl
theorem mkv_CenterS (k : Int) (xs : List DCenter) : (Lay.sl Lay.tCenter).mkv k xs = mkAll Lay.tCenter.cnt Lay.tCenter.mkd k xs := rfl

set_option maxRecDepth 10000 in
set_option maxHeartbeats 2000000 in
theorem markCenter_pos (b off cap : Nat) (xs : List DCenter) (bl : List Nat) (k : Int) (w : World) (h : (Lay.sl Lay.tCenter).Own w [.slice (some ⟨b, off, none⟩) xs.length cap] xs bl) (hk : 0 ≤ k) (hk2 : k + (cntAll Lay.tCenter.cnt xs : Nat) ≤ 1000000000) :
    Calls Tryz.prog 53 #[.slice (some ⟨b, off, none⟩) xs.length cap, .int .i64 k] w fun e w' => e = .returned (.int .i64 (k + (cntAll Lay.tCenter.cnt xs : Nat))) ∧ (Lay.sl Lay.tCenter).Own w' [.slice (some ⟨b, off, none⟩) xs.length cap] (mkAll Lay.tCenter.cnt Lay.tCenter.mkd k xs) bl ∧ Ext (fun q => q ∈ bl) w w' := by
  have hbig := h.reads.big
  have H := hide h
  clear h
  go_enter Tryz.func53, Tryz.ntmps53
  go_wp2_with fail
  go_loopw [1, 5] (fun kk i wr => ∃ (j : Nat) (kj : Int), j ≤ xs.length ∧ i = .int .i64 j ∧ kj = k + (cntAll Lay.tCenter.cnt (xs.take j) : Nat) ∧ kk = .int .i64 kj ∧ (Lay.sl Lay.tCenter).Own wr [.slice (some ⟨b, off, none⟩) xs.length cap] (mkPre Lay.tCenter.cnt Lay.tCenter.mkd k xs j) bl ∧ Ext (fun q => q ∈ bl) w wr) (fun _ i _ => xs.length - (intOf i).toNat)
  case atStart => exact ⟨0, k, Nat.zero_le _, rfl, by simp [cntAll], rfl, by rw [mkPre_zero]; exact unhide H, Ext.refl _ _⟩
  case round =>
    obtain ⟨j, kj, hj, rfl, hkj, rfl, hO, hX⟩ := hrel
    clear H
    by_cases hlt : j < xs.length
    · have hj2 : j < (mkPre Lay.tCenter.cnt Lay.tCenter.mkd k xs j).length := by rw [mkPre_len _ _ _ _ _ hj]; exact hlt
      obtain ⟨row, blk, R, O, hbk, hin, hfin⟩ := Lay.own_upd hO hj2
      rw [mkPre_get _ _ _ _ _ hlt] at O
      have HT := hide (Lay.cntAll_take (f := Lay.tCenter.cnt) hlt)
      have hle := Lay.cntAll_take_le (f := Lay.tCenter.cnt) (xs := xs) (k := j + 1)
      rw [unhide HT] at hle
      have HM : Hid (∀ y, y = Lay.tCenter.mkd kj xs[j] → (mkPre Lay.tCenter.cnt Lay.tCenter.mkd k xs j).set j y = mkPre Lay.tCenter.cnt Lay.tCenter.mkd k xs (j + 1)) := fun y e => by rw [e, hkj]; exact mkPre_set _ _ _ _ _ hlt
      have HF := hide hfin
      have HX := hide hX
      have HI := hide hin
      clear hO hfin hX hin hj2
      generalize hx : xs[j] = x at *
      clear hx
      have hcn := cnt_Center x
      have HD := hide (mkd_Center kj x)
      have hb1 : 0 ≤ kj := by omega
      have hb2 : kj + (Lay.tCenter.cnt x : Int) ≤ 1000000000 := by omega
      have HK := hide hkj
      clear hkj hle
      have hnd := O.2.1
      obtain ⟨a0, d0, g0, rfl, hbl, O0⟩ := own_Center O
      clear O
      subst hbl
      have HN := hide hnd
      clear hnd
      have l1 : b < wr.heap.size := R.lt
      have c0 : wr.cell? ⟨b, off + j, none⟩ = some (.slice a0 x.vec.length d0) := (by have q1 : wr.cell? ⟨b, off + j * 1 + 0, none⟩ = some (.slice a0 x.vec.length d0) := R.at 0 _ rfl; rw [Nat.mul_one, Nat.add_zero] at q1; exact q1)
      have HR := hide R
      clear R
      go_wp2_with fail
      refine (mark_Int64S _ x.vec blk (kj) _ O0 (by omega) (by omega)).mono ?_
      rintro e w2 ⟨rfl, Q0, E2⟩
      have R := (unhide HR).call E2 (fun _ h => h) hbk
      clear E2 O0 HR c0 
      clear l1
      have l1 : b < w2.heap.size := R.lt
      have HR := hide R
      clear R
      have HQ := hide Q0
      clear Q0
      go_wp2_with fail
      go_roundw
      case rel =>
        refine ⟨j + 1, _, by omega, by go_num, ?_, rfl, ?_, ?_⟩
        · rw [unhide HT, hcn]
          have := unhide HK
          omega
        · rw [← unhide HM _ (unhide HD).symm]
          exact unhide HF _ _ _ (unhide HR) (mkOwn_Center (x := ⟨(Lay.sl Lay.int).mkv (kj) x.vec⟩) (unhide HQ)  (unhide HN))
        · exact (unhide HX).trans ((unhide HR).ext.mono fun q _ hq => unhide HI q (by rcases hq with h | h; exact Or.inl h.symm; exact Or.inr h))
      case measure => simp [intOf]; omega
    · obtain rfl : j = xs.length := by omega
      rw [mkPre_all] at hO
      rw [List.take_length] at hkj
      have HK := hide hkj
      clear hkj
      have HO := hide hO
      have HX := hide hX
      clear hO hX
      go_wp2_with fail
      go_ret
      exact ⟨by rw [← unhide HK]; rfl, unhide HO, unhide HX⟩

theorem markCenter_zero (ao : Option Addr) (cap : Nat) (k : Int) (w : World) :
    Calls Tryz.prog 53 #[.slice ao 0 cap, .int .i64 k] w fun e w' => e = .returned (.int .i64 k) ∧ w' = w := by
  go_enter Tryz.func53, Tryz.ntmps53
  go_wp2_with fail
  refine wp_loop_rounds 1 ?_
  rw [rounds_succ]
  go_wp2_with fail
  go_ret
  exact ⟨rfl, rfl⟩

/-- markCenterS. -/
theorem mark_CenterS (v : Value) (xs : List DCenter) (bl : List Nat) (k : Int) (w : World) (h : (Lay.sl Lay.tCenter).Own w [v] xs bl) (hk : 0 ≤ k) (hk2 : k + (Lay.sl Lay.tCenter).vcnt xs ≤ 1000000000) :
    Calls Tryz.prog 53 #[v, .int .i64 k] w fun e w' => e = .returned (.int .i64 (k + (Lay.sl Lay.tCenter).vcnt xs)) ∧ (Lay.sl Lay.tCenter).Own w' [v] ((Lay.sl Lay.tCenter).mkv k xs) bl ∧ Ext (fun q => q ∈ bl) w w' := by
  obtain ⟨ao, cap, rfl⟩ := open_sl h.reads
  by_cases hp : 0 < xs.length
  · obtain ⟨b, off, rfl, hbl⟩ := Lay.sl_addr h.reads hp
    exact markCenter_pos b off cap xs bl k w h hk hk2
  · obtain rfl : xs = [] := List.eq_nil_of_length_eq_zero (by omega)
    refine (markCenter_zero ao cap k w).mono ?_
    rintro e w' ⟨rfl, rfl⟩
    exact ⟨by rw [vcnt_CenterS]; simp [cntAll], h, Ext.refl _ _⟩

end Go.Proofs.YtfgadegpdknocaaGreat

namespace Go.Proofs.YtfgadegpdknocaaGreat
open Go.RowKit

theorem vcnt_IvfList (x : DIvfList) : Lay.tIvfList.vcnt x = (Lay.sl Lay.tItem).vcnt x.items := by
  show (Lay.sl Lay.tItem).vcnt x.items = (Lay.sl Lay.tItem).vcnt x.items
  omega
theorem mkv_IvfList (k : Int) (x : DIvfList) : Lay.tIvfList.mkv k x = ⟨(Lay.sl Lay.tItem).mkv (k) x.items⟩ := by
  simp [Lay.tIvfList, Lay.via]
theorem own_IvfList {w : World} {cs : List Value} {x : DIvfList} {bl : List Nat} (h : Lay.tIvfList.Own w cs x bl) : ∃ (a0 : Option Addr) (d0 : Nat) (g0 : List Nat), cs = [.slice a0 x.items.length d0] ∧ bl = g0 ∧ (Lay.sl Lay.tItem).Own w [.slice a0 x.items.length d0] x.items g0 := by
  obtain ⟨hl, hn, hf⟩ := h
  obtain ⟨a0, d0, b0, rfl, hbl, l0⟩ := lies_IvfList.1 hl
  rw [hbl] at hn hf
  exact ⟨a0, d0, b0, rfl, hbl, ⟨l0, hn, hf⟩⟩
theorem mkOwn_IvfList {w : World} {x : DIvfList} {c0 : List Value} {g0 : List Nat} (O0 : (Lay.sl Lay.tItem).Own w c0 x.items g0) (hn : (g0).Nodup) : Lay.tIvfList.Own w (c0) x (g0) := by
  refine ⟨O0.1, hn, ?_⟩
  intro b hb o
  exact O0.2.2 b hb o

end Go.Proofs.YtfgadegpdknocaaGreat

namespace Go.Proofs.YtfgadegpdknocaaGreat
open Go.RowKit

theorem cnt_Item (x : DItem) : Lay.tItem.cnt x = 1 + (Lay.sl Lay.int).vcnt x.vec := by
  show 1 + ((Lay.sl Lay.int).vcnt x.vec) = 1 + (Lay.sl Lay.int).vcnt x.vec
  omega
theorem mkd_Item (k : Int) (x : DItem) : Lay.tItem.mkd k x = ⟨k, (Lay.sl Lay.int).mkv (k + 1) x.vec⟩ := rfl
theorem vcnt_ItemS (xs : List DItem) : (Lay.sl Lay.tItem).vcnt xs = cntAll Lay.tItem.cnt xs := rfl
theorem mkv_ItemS (k : Int) (xs : List DItem) : (Lay.sl Lay.tItem).mkv k xs = mkAll Lay.tItem.cnt Lay.tItem.mkd k xs := rfl

set_option maxRecDepth 10000 in
set_option maxHeartbeats 2000000 in
theorem markItem_pos (b off cap : Nat) (xs : List DItem) (bl : List Nat) (k : Int) (w : World) (h : (Lay.sl Lay.tItem).Own w [.slice (some ⟨b, off, none⟩) xs.length cap] xs bl) (hk : 0 ≤ k) (hk2 : k + (cntAll Lay.tItem.cnt xs : Nat) ≤ 1000000000) :
    Calls Tryz.prog 98 #[.slice (some ⟨b, off, none⟩) xs.length cap, .int .i64 k] w fun e w' => e = .returned (.int .i64 (k + (cntAll Lay.tItem.cnt xs : Nat))) ∧ (Lay.sl Lay.tItem).Own w' [.slice (some ⟨b, off, none⟩) xs.length cap] (mkAll Lay.tItem.cnt Lay.tItem.mkd k xs) bl ∧ Ext (fun q => q ∈ bl) w w' := by
  have hbig := h.reads.big
  have H := hide h
  clear h
  go_enter Tryz.func98, Tryz.ntmps98
  go_wp2_with fail
  go_loopw [1, 5] (fun kk i wr => ∃ (j : Nat) (kj : Int), j ≤ xs.length ∧ i = .int .i64 j ∧ kj = k + (cntAll Lay.tItem.cnt (xs.take j) : Nat) ∧ kk = .int .i64 kj ∧ (Lay.sl Lay.tItem).Own wr [.slice (some ⟨b, off, none⟩) xs.length cap] (mkPre Lay.tItem.cnt Lay.tItem.mkd k xs j) bl ∧ Ext (fun q => q ∈ bl) w wr) (fun _ i _ => xs.length - (intOf i).toNat)
  case atStart => exact ⟨0, k, Nat.zero_le _, rfl, by simp [cntAll], rfl, by rw [mkPre_zero]; exact unhide H, Ext.refl _ _⟩
  case round =>
    obtain ⟨j, kj, hj, rfl, hkj, rfl, hO, hX⟩ := hrel
    clear H
    by_cases hlt : j < xs.length
    · have hj2 : j < (mkPre Lay.tItem.cnt Lay.tItem.mkd k xs j).length := by rw [mkPre_len _ _ _ _ _ hj]; exact hlt
      obtain ⟨row, blk, R, O, hbk, hin, hfin⟩ := Lay.own_upd hO hj2
      rw [mkPre_get _ _ _ _ _ hlt] at O
      have HT := hide (Lay.cntAll_take (f := Lay.tItem.cnt) hlt)
      have hle := Lay.cntAll_take_le (f := Lay.tItem.cnt) (xs := xs) (k := j + 1)
      rw [unhide HT] at hle
      have HM : Hid (∀ y, y = Lay.tItem.mkd kj xs[j] → (mkPre Lay.tItem.cnt Lay.tItem.mkd k xs j).set j y = mkPre Lay.tItem.cnt Lay.tItem.mkd k xs (j + 1)) := fun y e => by rw [e, hkj]; exact mkPre_set _ _ _ _ _ hlt
      have HF := hide hfin
      have HX := hide hX
      have HI := hide hin
      clear hO hfin hX hin hj2
      generalize hx : xs[j] = x at *
      clear hx
      have hcn := cnt_Item x
      have HD := hide (mkd_Item kj x)
      have hb1 : 0 ≤ kj := by omega
      have hb2 : kj + (Lay.tItem.cnt x : Int) ≤ 1000000000 := by omega
      have HK := hide hkj
      clear hkj hle
      have hnd := O.2.1
      obtain ⟨a1, d1, g1, rfl, hbl, O1, v0⟩ := own_Item O
      clear O
      subst hbl
      have HN := hide hnd
      clear hnd
      have l1 : b < wr.heap.size := R.lt
      have c0 : wr.cell? ⟨b, off + j * 2, none⟩ = some (.int .i64 x.id) := R.at 0 _ rfl
      have f0 : wr.frozen? ⟨b, off + j * 2, none⟩ = false := R.soft _
      have c1 : wr.cell? ⟨b, off + j * 2 + 1, none⟩ = some (.slice a1 x.vec.length d1) := R.at 1 _ rfl
      have R0_ : RowAt wr (wr.setCell ⟨b, off + j * 2, none⟩ (.int .i64 kj)) b (off + j * 2) 2 [.int .i64 kj, .slice a1 x.vec.length d1] blk := (R.set 0 (.int .i64 kj) (by decide))
      have E0_ : Ext (fun q => q = b) wr (wr.setCell ⟨b, off + j * 2, none⟩ (.int .i64 kj)) := ((Ext.refl (fun q => q = b) _).setCell ⟨b, off + j * 2, none⟩ (.int .i64 kj) rfl)
      have O1_ := O1.ext E0_ (fun c hc e => hbk (e ▸ hc))
      clear O1
      have O1 := O1_
      clear O1_
      clear R E0_
      have R := R0_
      clear R0_
      have HR := hide R
      clear R
      go_wp2_with fail
      refine (mark_Int64S _ x.vec blk (kj + 1) _ O1 (by omega) (by omega)).mono ?_
      rintro e w2 ⟨rfl, Q1, E2⟩
      have R := (unhide HR).call E2 (fun _ h => h) hbk
      clear E2 O1 HR c0 c1 f0
      clear l1
      have l1 : b < w2.heap.size := R.lt
      have HR := hide R
      clear R
      have HQ := hide Q1
      clear Q1
      go_wp2_with fail
      go_roundw
      case rel =>
        refine ⟨j + 1, _, by omega, by go_num, ?_, rfl, ?_, ?_⟩
        · rw [unhide HT, hcn]
          have := unhide HK
          omega
        · rw [← unhide HM _ (unhide HD).symm]
          exact unhide HF _ _ _ (unhide HR) (mkOwn_Item (x := ⟨kj, (Lay.sl Lay.int).mkv (kj + 1) x.vec⟩) (unhide HQ) (show (Lit.int .i64 (kj)).wf = true from wf_of_bd (by omega)) (unhide HN))
        · exact (unhide HX).trans ((unhide HR).ext.mono fun q _ hq => unhide HI q (by rcases hq with h | h; exact Or.inl h.symm; exact Or.inr h))
      case measure => simp [intOf]; omega
    · obtain rfl : j = xs.length := by omega
      rw [mkPre_all] at hO
      rw [List.take_length] at hkj
      have HK := hide hkj
      clear hkj
      have HO := hide hO
      have HX := hide hX
      clear hO hX
      go_wp2_with fail
      go_ret
      exact ⟨by rw [← unhide HK]; rfl, unhide HO, unhide HX⟩

theorem markItem_zero (ao : Option Addr) (cap : Nat) (k : Int) (w : World) :
    Calls Tryz.prog 98 #[.slice ao 0 cap, .int .i64 k] w fun e w' => e = .returned (.int .i64 k) ∧ w' = w := by
  go_enter Tryz.func98, Tryz.ntmps98
  go_wp2_with fail
  refine wp_loop_rounds 1 ?_
  rw [rounds_succ]
  go_wp2_with fail
  go_ret
  exact ⟨rfl, rfl⟩

/-- markItemS. -/
theorem mark_ItemS (v : Value) (xs : List DItem) (bl : List Nat) (k : Int) (w : World) (h : (Lay.sl Lay.tItem).Own w [v] xs bl) (hk : 0 ≤ k) (hk2 : k + (Lay.sl Lay.tItem).vcnt xs ≤ 1000000000) :
    Calls Tryz.prog 98 #[v, .int .i64 k] w fun e w' => e = .returned (.int .i64 (k + (Lay.sl Lay.tItem).vcnt xs)) ∧ (Lay.sl Lay.tItem).Own w' [v] ((Lay.sl Lay.tItem).mkv k xs) bl ∧ Ext (fun q => q ∈ bl) w w' := by
  obtain ⟨ao, cap, rfl⟩ := open_sl h.reads
  by_cases hp : 0 < xs.length
  · obtain ⟨b, off, rfl, hbl⟩ := Lay.sl_addr h.reads hp
    exact markItem_pos b off cap xs bl k w h hk hk2
  · obtain rfl : xs = [] := List.eq_nil_of_length_eq_zero (by omega)
    refine (markItem_zero ao cap k w).mono ?_
    rintro e w' ⟨rfl, rfl⟩
    exact ⟨by rw [vcnt_ItemS]; simp [cntAll], h, Ext.refl _ _⟩

end Go.Proofs.YtfgadegpdknocaaGreat

namespace Go.Proofs.YtfgadegpdknocaaGreat
open Go.RowKit

theorem cnt_IvfList (x : DIvfList) : Lay.tIvfList.cnt x = 0 + (Lay.sl Lay.tItem).vcnt x.items := by
  show (Lay.sl Lay.tItem).vcnt x.items = 0 + (Lay.sl Lay.tItem).vcnt x.items
  omega
theorem mkd_IvfList (k : Int) (x : DIvfList) : Lay.tIvfList.mkd k x = ⟨(Lay.sl Lay.tItem).mkv (k) x.items⟩ := rfl
theorem vcnt_IvfListS (xs : List DIvfList) : (Lay.sl Lay.tIvfList).vcnt xs = cntAll Lay.tIvfList.cnt xs := rfl
theorem mkv_IvfListS (k : Int) (xs : List DIvfList) : (Lay.sl Lay.tIvfList).mkv k xs = mkAll Lay.tIvfList.cnt Lay.tIvfList.mkd k xs := rfl

set_option maxRecDepth 10000 in
set_option maxHeartbeats 2000000 in
theorem markIvfList_pos (b off cap : Nat) (xs : List DIvfList) (bl : List Nat) (k : Int) (w : World) (h : (Lay.sl Lay.tIvfList).Own w [.slice (some ⟨b, off, none⟩) xs.length cap] xs bl) (hk : 0 ≤ k) (hk2 : k + (cntAll Lay.tIvfList.cnt xs : Nat) ≤ 1000000000) :
    Calls Tryz.prog 54 #[.slice (some ⟨b, off, none⟩) xs.length cap, .int .i64 k] w fun e w' => e = .returned (.int .i64 (k + (cntAll Lay.tIvfList.cnt xs : Nat))) ∧ (Lay.sl Lay.tIvfList).Own w' [.slice (some ⟨b, off, none⟩) xs.length cap] (mkAll Lay.tIvfList.cnt Lay.tIvfList.mkd k xs) bl ∧ Ext (fun q => q ∈ bl) w w' := by
  have hbig := h.reads.big
  have H := hide h
  clear h
  go_enter Tryz.func54, Tryz.ntmps54
  go_wp2_with fail
  go_loopw [1, 5] (fun kk i wr => ∃ (j : Nat) (kj : Int), j ≤ xs.length ∧ i = .int .i64 j ∧ kj = k + (cntAll Lay.tIvfList.cnt (xs.take j) : Nat) ∧ kk = .int .i64 kj ∧ (Lay.sl Lay.tIvfList).Own wr [.slice (some ⟨b, off, none⟩) xs.length cap] (mkPre Lay.tIvfList.cnt Lay.tIvfList.mkd k xs j) bl ∧ Ext (fun q => q ∈ bl) w wr) (fun _ i _ => xs.length - (intOf i).toNat)
  case atStart => exact ⟨0, k, Nat.zero_le _, rfl, by simp [cntAll], rfl, by rw [mkPre_zero]; exact unhide H, Ext.refl _ _⟩
  case round =>
    obtain ⟨j, kj, hj, rfl, hkj, rfl, hO, hX⟩ := hrel
    clear H
    by_cases hlt : j < xs.length
    · have hj2 : j < (mkPre Lay.tIvfList.cnt Lay.tIvfList.mkd k xs j).length := by rw [mkPre_len _ _ _ _ _ hj]; exact hlt
      obtain ⟨row, blk, R, O, hbk, hin, hfin⟩ := Lay.own_upd hO hj2
      rw [mkPre_get _ _ _ _ _ hlt] at O
      have HT := hide (Lay.cntAll_take (f := Lay.tIvfList.cnt) hlt)
      have hle := Lay.cntAll_take_le (f := Lay.tIvfList.cnt) (xs := xs) (k := j + 1)
      rw [unhide HT] at hle
      have HM : Hid (∀ y, y = Lay.tIvfList.mkd kj xs[j] → (mkPre Lay.tIvfList.cnt Lay.tIvfList.mkd k xs j).set j y = mkPre Lay.tIvfList.cnt Lay.tIvfList.mkd k xs (j + 1)) := fun y e => by rw [e, hkj]; exact mkPre_set _ _ _ _ _ hlt
      have HF := hide hfin
      have HX := hide hX
      have HI := hide hin
      clear hO hfin hX hin hj2
      generalize hx : xs[j] = x at *
      clear hx
      have hcn := cnt_IvfList x
      have HD := hide (mkd_IvfList kj x)
      have hb1 : 0 ≤ kj := by omega
      have hb2 : kj + (Lay.tIvfList.cnt x : Int) ≤ 1000000000 := by omega
      have HK := hide hkj
      clear hkj hle
      have hnd := O.2.1
      obtain ⟨a0, d0, g0, rfl, hbl, O0⟩ := own_IvfList O
      clear O
      subst hbl
      have HN := hide hnd
      clear hnd
      have l1 : b < wr.heap.size := R.lt
      have c0 : wr.cell? ⟨b, off + j, none⟩ = some (.slice a0 x.items.length d0) := (by have q1 : wr.cell? ⟨b, off + j * 1 + 0, none⟩ = some (.slice a0 x.items.length d0) := R.at 0 _ rfl; rw [Nat.mul_one, Nat.add_zero] at q1; exact q1)
      have HR := hide R
      clear R
      go_wp2_with fail
      refine (mark_ItemS _ x.items blk (kj) _ O0 (by omega) (by omega)).mono ?_
      rintro e w2 ⟨rfl, Q0, E2⟩
      have R := (unhide HR).call E2 (fun _ h => h) hbk
      clear E2 O0 HR c0 
      clear l1
      have l1 : b < w2.heap.size := R.lt
      have HR := hide R
      clear R
      have HQ := hide Q0
      clear Q0
      go_wp2_with fail
      go_roundw
      case rel =>
        refine ⟨j + 1, _, by omega, by go_num, ?_, rfl, ?_, ?_⟩
        · rw [unhide HT, hcn]
          have := unhide HK
          omega
        · rw [← unhide HM _ (unhide HD).symm]
          exact unhide HF _ _ _ (unhide HR) (mkOwn_IvfList (x := ⟨(Lay.sl Lay.tItem).mkv (kj) x.items⟩) (unhide HQ)  (unhide HN))
        · exact (unhide HX).trans ((unhide HR).ext.mono fun q _ hq => unhide HI q (by rcases hq with h | h; exact Or.inl h.symm; exact Or.inr h))
      case measure => simp [intOf]; omega
    · obtain rfl : j = xs.length := by omega
      rw [mkPre_all] at hO
      rw [List.take_length] at hkj
      have HK := hide hkj
      clear hkj
      have HO := hide hO
      have HX := hide hX
      clear hO hX
      go_wp2_with fail
      go_ret
      exact ⟨by rw [← unhide HK]; rfl, unhide HO, unhide HX⟩

theorem markIvfList_zero (ao : Option Addr) (cap : Nat) (k : Int) (w : World) :
    Calls Tryz.prog 54 #[.slice ao 0 cap, .int .i64 k] w fun e w' => e = .returned (.int .i64 k) ∧ w' = w := by
  go_enter Tryz.func54, Tryz.ntmps54
  go_wp2_with fail
  refine wp_loop_rounds 1 ?_
  rw [rounds_succ]
  go_wp2_with fail
  go_ret
  exact ⟨rfl, rfl⟩

/-- markIvfListS. -/
theorem mark_IvfListS (v : Value) (xs : List DIvfList) (bl : List Nat) (k : Int) (w : World) (h : (Lay.sl Lay.tIvfList).Own w [v] xs bl) (hk : 0 ≤ k) (hk2 : k + (Lay.sl Lay.tIvfList).vcnt xs ≤ 1000000000) :
    Calls Tryz.prog 54 #[v, .int .i64 k] w fun e w' => e = .returned (.int .i64 (k + (Lay.sl Lay.tIvfList).vcnt xs)) ∧ (Lay.sl Lay.tIvfList).Own w' [v] ((Lay.sl Lay.tIvfList).mkv k xs) bl ∧ Ext (fun q => q ∈ bl) w w' := by
  obtain ⟨ao, cap, rfl⟩ := open_sl h.reads
  by_cases hp : 0 < xs.length
  · obtain ⟨b, off, rfl, hbl⟩ := Lay.sl_addr h.reads hp
    exact markIvfList_pos b off cap xs bl k w h hk hk2
  · obtain rfl : xs = [] := List.eq_nil_of_length_eq_zero (by omega)
    refine (markIvfList_zero ao cap k w).mono ?_
    rintro e w' ⟨rfl, rfl⟩
    exact ⟨by rw [vcnt_IvfListS]; simp [cntAll], h, Ext.refl _ _⟩

end Go.Proofs.YtfgadegpdknocaaGreat

namespace Go.Proofs.YtfgadegpdknocaaGreat
open Go.RowKit

set_option maxRecDepth 10000 in
set_option maxHeartbeats 1000000 in
theorem mark_Ivf (cs : List Value) (x : DIvf) (bl : List Nat) (k : Int) (w : World) (h : Lay.tIvf.Own w cs x bl) (hk : 0 ≤ k) (hk2 : k + Lay.tIvf.vcnt x ≤ 1000000000) :
    Calls Tryz.prog 15 #[.agg cs.toArray, .int .i64 k] w fun e w' => e = .returned (.int .i64 (k + Lay.tIvf.vcnt x)) ∧ Lay.tIvf.Own w' cs (Lay.tIvf.mkv k x) bl ∧ Ext (fun q => q ∈ bl) w w' := by
  have hlt := h.lt
  have hnd := h.2.1
  rw [vcnt_Ivf] at hk2
  obtain ⟨a0, d0, a1, d1, g0, g1, rfl, hbl, O0, O1⟩ := own_Ivf h
  clear h
  have HB0 : Below w.heap.size w (w.alloc (.cells #[.slice a0 x.centers.length d0, .slice a1 x.lists.length d1] 31)) := (Below.refl _ _).alloc (Nat.le_refl _) _
  have bA : Box w.heap.size #[.slice a0 x.centers.length d0, .slice a1 x.lists.length d1] 31 (w.alloc (.cells #[.slice a0 x.centers.length d0, .slice a1 x.lists.length d1] 31)) w.heap.size := newBox (Nat.le_refl _)
  have HN := hide hnd
  have HV := hide (vcnt_Ivf x)
  have HM := hide (mkv_Ivf k x)
  clear hnd
  go_enter Tryz.func15, Tryz.ntmps15
  go_wp2_with fail
  generalize w.alloc (.cells #[.slice a0 x.centers.length d0, .slice a1 x.lists.length d1] 31) = W0 at *
  replace O0 := O0.later HB0
  replace O1 := O1.later HB0
  have hsz := HB0.size
  have EX : Ext (fun q => q ∈ bl) w W0 := ext_of_below HB0 _
  have hs0 := bA.lt
  refine (mark_CenterS _ x.centers g0 (k) _ O0 (by omega) (by omega)).mono ?_
  rintro e w1 ⟨rfl, Q0, E0⟩
  replace O1 := O1.ext E0 (fun b hb hb2 => by subst hbl; exact absurd rfl ((by have := unhide HN; simp_all [List.nodup_append] : ∀ p ∈ g0, ∀ q ∈ g1, p ≠ q) b hb2 b hb))
  replace EX := EX.trans (E0.mono fun b _ hb => by rw [hbl]; simp [hb])
  replace bA := bA.ext E0 (fun hm => by have := hlt w.heap.size (by rw [hbl]; simp [hm]); omega)
  clear E0
  have p1 := bA.at 1 _ rfl
  have HA := hide bA
  have HX := hide EX
  have HL := hide hlt
  have HBL := hide hbl
  clear bA EX hlt hbl
  have P0 := hide Q0
  clear Q0
  have P1 := hide O1
  clear O1
  clear O0
  go_wp2_with fail
  have bA := unhide HA
  have EX := unhide HX
  have hlt := unhide HL
  have hbl := unhide HBL
  clear HA HX HL HBL
  have Q0 := unhide P0
  clear P0
  have O1 := unhide P1
  clear P1
  clear p1
  refine (mark_IvfListS _ x.lists g1 (k + ((Lay.sl Lay.tCenter).vcnt x.centers : Int)) _ O1 (by omega) (by omega)).mono ?_
  rintro e w2 ⟨rfl, Q1, E1⟩
  replace Q0 := Q0.ext E1 (fun b hb hb2 => by subst hbl; exact absurd rfl ((by have := unhide HN; simp_all [List.nodup_append] : ∀ p ∈ g0, ∀ q ∈ g1, p ≠ q) b hb b hb2))
  replace EX := EX.trans (E1.mono fun b _ hb => by rw [hbl]; simp [hb])
  replace bA := bA.ext E1 (fun hm => by have := hlt w.heap.size (by rw [hbl]; simp [hm]); omega)
  clear E1
  have HA := hide bA
  have HX := hide EX
  have HL := hide hlt
  have HBL := hide hbl
  clear bA EX hlt hbl
  have P0 := hide Q0
  clear Q0
  have P1 := hide Q1
  clear Q1
  clear O1
  go_wp2_with fail
  go_ret
  refine ⟨?_, ?_, unhide HX⟩
  · rw [show k + (Lay.tIvf.vcnt x : Int) = k + ((Lay.sl Lay.tCenter).vcnt x.centers : Int) + ((Lay.sl Lay.tIvfList).vcnt x.lists : Int) by rw [unhide HV]; omega]
    rfl
  · have e := unhide HBL
    subst e
    rw [unhide HM]
    exact mkOwn_Ivf (x := ⟨(Lay.sl Lay.tCenter).mkv (k) x.centers, (Lay.sl Lay.tIvfList).mkv (k + ((Lay.sl Lay.tCenter).vcnt x.centers : Int)) x.lists⟩) (unhide P0) (unhide P1) (unhide HN)

end Go.Proofs.YtfgadegpdknocaaGreat

namespace Go.Proofs.YtfgadegpdknocaaGreat
open Go.RowKit

structure DIvfResult where
  code : Int
  ivf : DIvf

def Lay.tIvfResult : Lay DIvfResult := Lay.via (Lay.pair Lay.int Lay.tIvf) (fun x => (x.code, x.ivf)) (fun p => ⟨p.1, p.2⟩)

theorem lies_IvfResult {w : World} {cs : List Value} {x : DIvfResult} {bl : List Nat} : Lay.tIvfResult.lies w cs x bl ↔ ∃ (a1 : Option Addr) (d1 : Nat) (b1 : List Nat) (a2 : Option Addr) (d2 : Nat) (b2 : List Nat), cs = [.int .i64 x.code, .slice a1 x.ivf.centers.length d1, .slice a2 x.ivf.lists.length d2] ∧ bl = b1 ++ b2 ∧ (Lit.int .i64 x.code).wf = true ∧ (Lay.sl Lay.tCenter).lies w [.slice a1 x.ivf.centers.length d1] x.ivf.centers b1 ∧ (Lay.sl Lay.tIvfList).lies w [.slice a2 x.ivf.lists.length d2] x.ivf.lists b2 := by
  constructor
  · intro h
    obtain ⟨c0_, r0_, e0_, s0_, rfl, rfl, h0, h1⟩ := h
    obtain ⟨rfl, w0, rfl⟩ := h0
    obtain ⟨a1, d1, q1, a2, d2, q2, rfl, hq1, l1, l2⟩ := lies_Ivf.1 h1
    exact ⟨a1, d1, q1, a2, d2, q2, by simp, by simp [hq1], w0, l1, l2⟩
  · rintro ⟨a1, d1, b1, a2, d2, b2, rfl, hbl, w0, l1, l2⟩
    rw [hbl]
    exact ⟨[.int .i64 x.code], [.slice a1 x.ivf.centers.length d1, .slice a2 x.ivf.lists.length d2], [], b1 ++ b2, rfl, by simp, ⟨rfl, w0, rfl⟩, lies_Ivf.2 ⟨a1, d1, b1, a2, d2, b2, rfl, rfl, l1, l2⟩⟩

theorem open_IvfResult {w : World} {cs : List Value} {x : DIvfResult} (h : Lay.tIvfResult.Reads w cs x) : ∃ (a1 : Option Addr) (d1 : Nat) (a2 : Option Addr) (d2 : Nat), cs = [.int .i64 x.code, .slice a1 x.ivf.centers.length d1, .slice a2 x.ivf.lists.length d2] ∧ Lay.tIvf.Reads w [.slice a1 x.ivf.centers.length d1, .slice a2 x.ivf.lists.length d2] x.ivf := by
  obtain ⟨bl, h⟩ := h
  obtain ⟨a1, d1, b1, a2, d2, b2, rfl, -, w0, l1, l2⟩ := lies_IvfResult.1 h
  exact ⟨a1, d1, a2, d2, rfl, ⟨_, lies_Ivf.2 ⟨a1, d1, _, a2, d2, _, rfl, rfl, l1, l2⟩⟩⟩

end Go.Proofs.YtfgadegpdknocaaGreat

namespace Go.Proofs.YtfgadegpdknocaaGreat
open Go.RowKit

set_option maxRecDepth 10000 in
set_option maxHeartbeats 1000000 in
theorem eq_IvfResult (cs cs2 : List Value) (x : DIvfResult) (w : World) (h : Lay.tIvfResult.Reads w cs x) (h2 : Lay.tIvfResult.Reads w cs2 x) :
    Calls Tryz.prog 12 #[.agg cs.toArray, .agg cs2.toArray] w fun e w' => e = .returned (.bool true) ∧ Below w.heap.size w w' := by
  obtain ⟨a1, d1, a2, d2, rfl, R1⟩ := open_IvfResult h
  obtain ⟨a1z, d1z, a2z, d2z, rfl, R1z⟩ := open_IvfResult h2
  clear h h2
  have e0 : (x.code != x.code) = false := by simp
  have HB0 : Below w.heap.size w ((w.alloc (.cells #[.int .i64 x.code, .slice a1 x.ivf.centers.length d1, .slice a2 x.ivf.lists.length d2] 33)).alloc (.cells #[.int .i64 x.code, .slice a1z x.ivf.centers.length d1z, .slice a2z x.ivf.lists.length d2z] 33)) := ((Below.refl _ _).alloc (Nat.le_refl _) _).alloc (by simp) _
  have bA : Box w.heap.size #[.int .i64 x.code, .slice a1 x.ivf.centers.length d1, .slice a2 x.ivf.lists.length d2] 33 ((w.alloc (.cells #[.int .i64 x.code, .slice a1 x.ivf.centers.length d1, .slice a2 x.ivf.lists.length d2] 33)).alloc (.cells #[.int .i64 x.code, .slice a1z x.ivf.centers.length d1z, .slice a2z x.ivf.lists.length d2z] 33)) w.heap.size := (newBox (Nat.le_refl _)).grow _
  have bC : Box w.heap.size #[.int .i64 x.code, .slice a1z x.ivf.centers.length d1z, .slice a2z x.ivf.lists.length d2z] 33 ((w.alloc (.cells #[.int .i64 x.code, .slice a1 x.ivf.centers.length d1, .slice a2 x.ivf.lists.length d2] 33)).alloc (.cells #[.int .i64 x.code, .slice a1z x.ivf.centers.length d1z, .slice a2z x.ivf.lists.length d2z] 33)) (w.heap.size + 1) := newBoxAt (by omega) (by simp)
  go_enter Tryz.func12, Tryz.ntmps12
  go_wp2_with fail
  generalize (w.alloc (.cells #[.int .i64 x.code, .slice a1 x.ivf.centers.length d1, .slice a2 x.ivf.lists.length d2] 33)).alloc (.cells #[.int .i64 x.code, .slice a1z x.ivf.centers.length d1z, .slice a2z x.ivf.lists.length d2z] 33) = W0 at *
  replace R1 := R1.later HB0
  replace R1z := R1z.later HB0
  refine (eq_Ivf _ _ x.ivf _ R1 R1z).mono ?_
  rintro e w1 ⟨rfl, hb⟩
  replace bA := bA.keep hb
  replace bC := bC.keep hb
  replace HB0 := HB0.trans (hb.mono HB0.size)
  clear hb
  have HB := hide HB0
  have HA := hide bA
  have HC := hide bC
  clear HB0 bA bC
  go_wp2_with fail
  go_ret
  exact ⟨rfl, unhide HB⟩

end Go.Proofs.YtfgadegpdknocaaGreat

namespace Go.Proofs.YtfgadegpdknocaaGreat
open Go.RowKit

theorem vcnt_IvfResult (x : DIvfResult) : Lay.tIvfResult.vcnt x = Lay.tIvf.vcnt x.ivf := by
  show 0 + (Lay.tIvf.vcnt x.ivf) = Lay.tIvf.vcnt x.ivf
  omega
theorem mkv_IvfResult (k : Int) (x : DIvfResult) : Lay.tIvfResult.mkv k x = ⟨x.code, Lay.tIvf.mkv (k) x.ivf⟩ := by
  simp [Lay.tIvfResult, Lay.via, Lay.pair, Lay.int]
theorem own_IvfResult {w : World} {cs : List Value} {x : DIvfResult} {bl : List Nat} (h : Lay.tIvfResult.Own w cs x bl) : ∃ (a1 : Option Addr) (d1 : Nat) (a2 : Option Addr) (d2 : Nat) (g1 : List Nat), cs = [.int .i64 x.code, .slice a1 x.ivf.centers.length d1, .slice a2 x.ivf.lists.length d2] ∧ bl = g1 ∧ Lay.tIvf.Own w [.slice a1 x.ivf.centers.length d1, .slice a2 x.ivf.lists.length d2] x.ivf g1 ∧ (Lit.int .i64 x.code).wf = true := by
  obtain ⟨hl, hn, hf⟩ := h
  obtain ⟨a1, d1, b1, a2, d2, b2, rfl, hbl, w0, l1, l2⟩ := lies_IvfResult.1 hl
  rw [hbl] at hn hf
  simp only [List.nodup_append, List.mem_append] at hn hf
  exact ⟨a1, d1, a2, d2, (b1 ++ b2), rfl, by first | exact hbl | (rw [hbl]; simp only [List.append_assoc]), ⟨lies_Ivf.2 ⟨a1, d1, b1, a2, d2, b2, rfl, rfl, l1, l2⟩, by simp_all [List.nodup_append], fun b hb => hf b (by simp_all)⟩, w0⟩
theorem mkOwn_IvfResult {w : World} {x : DIvfResult} {c1 : List Value} {g1 : List Nat} (O1 : Lay.tIvf.Own w c1 x.ivf g1) (v0 : (Lit.int .i64 x.code).wf = true) (hn : (g1).Nodup) : Lay.tIvfResult.Own w ([.int .i64 x.code] ++ c1) x (g1) := by
  refine ⟨⟨[.int .i64 x.code], c1, [], g1, rfl, by simp, ⟨rfl, v0, rfl⟩, O1.1⟩, hn, ?_⟩
  intro b hb o
  exact O1.2.2 b hb o

end Go.Proofs.YtfgadegpdknocaaGreat

namespace Go.Proofs.YtfgadegpdknocaaGreat
open Go.RowKit

set_option maxRecDepth 10000 in
set_option maxHeartbeats 1000000 in
theorem mark_IvfResult (cs : List Value) (x : DIvfResult) (bl : List Nat) (k : Int) (w : World) (h : Lay.tIvfResult.Own w cs x bl) (hk : 0 ≤ k) (hk2 : k + Lay.tIvfResult.vcnt x ≤ 1000000000) :
    Calls Tryz.prog 17 #[.agg cs.toArray, .int .i64 k] w fun e w' => e = .returned (.int .i64 (k + Lay.tIvfResult.vcnt x)) ∧ Lay.tIvfResult.Own w' cs (Lay.tIvfResult.mkv k x) bl ∧ Ext (fun q => q ∈ bl) w w' := by
  have hlt := h.lt
  have hnd := h.2.1
  rw [vcnt_IvfResult] at hk2
  obtain ⟨a1, d1, a2, d2, g1, rfl, hbl, O1, v0⟩ := own_IvfResult h
  clear h
  have HB0 : Below w.heap.size w (w.alloc (.cells #[.int .i64 x.code, .slice a1 x.ivf.centers.length d1, .slice a2 x.ivf.lists.length d2] 33)) := (Below.refl _ _).alloc (Nat.le_refl _) _
  have bA : Box w.heap.size #[.int .i64 x.code, .slice a1 x.ivf.centers.length d1, .slice a2 x.ivf.lists.length d2] 33 (w.alloc (.cells #[.int .i64 x.code, .slice a1 x.ivf.centers.length d1, .slice a2 x.ivf.lists.length d2] 33)) w.heap.size := newBox (Nat.le_refl _)
  have HN := hide hnd
  have HV := hide (vcnt_IvfResult x)
  have HM := hide (mkv_IvfResult k x)
  clear hnd
  go_enter Tryz.func17, Tryz.ntmps17
  go_wp2_with fail
  generalize w.alloc (.cells #[.int .i64 x.code, .slice a1 x.ivf.centers.length d1, .slice a2 x.ivf.lists.length d2] 33) = W0 at *
  replace O1 := O1.later HB0
  have hsz := HB0.size
  have EX : Ext (fun q => q ∈ bl) w W0 := ext_of_below HB0 _
  have hs0 := bA.lt
  refine (mark_Ivf _ x.ivf g1 (k) _ O1 (by omega) (by omega)).mono ?_
  rintro e w1 ⟨rfl, Q1, E1⟩
  replace EX := EX.trans (E1.mono fun b _ hb => by rw [hbl]; simp [hb])
  replace bA := bA.ext E1 (fun hm => by have := hlt w.heap.size (by rw [hbl]; simp [hm]); omega)
  clear E1
  have HA := hide bA
  have HX := hide EX
  have HL := hide hlt
  have HBL := hide hbl
  clear bA EX hlt hbl
  have P1 := hide Q1
  clear Q1
  clear O1
  go_wp2_with fail
  go_ret
  refine ⟨?_, ?_, unhide HX⟩
  · rw [show k + (Lay.tIvfResult.vcnt x : Int) = k + (Lay.tIvf.vcnt x.ivf : Int) by rw [unhide HV]]
    rfl
  · have e := unhide HBL
    subst e
    rw [unhide HM]
    exact mkOwn_IvfResult (x := ⟨x.code, Lay.tIvf.mkv (k) x.ivf⟩) (unhide P1) v0 (unhide HN)

end Go.Proofs.YtfgadegpdknocaaGreat

namespace Go.Proofs.YtfgadegpdknocaaGreat
open Go.RowKit

set_option maxRecDepth 10000 in
set_option maxHeartbeats 2000000 in
theorem heldCenter_pos (b off cap : Nat) (xs : List DCenter) (k : Int) (w : World) (h : (Lay.sl Lay.tCenter).Reads w [.slice (some ⟨b, off, none⟩) (mkAll Lay.tCenter.cnt Lay.tCenter.mkd k xs).length cap] (mkAll Lay.tCenter.cnt Lay.tCenter.mkd k xs)) (hbl : b < w.heap.size) (hk : 0 ≤ k) (hk2 : k + (cntAll Lay.tCenter.cnt xs : Nat) ≤ 1000000000) :
    Calls Tryz.prog 99 #[.slice (some ⟨b, off, none⟩) xs.length cap, .int .i64 k] w fun e w' => e = .returned (.int .i64 (k + (cntAll Lay.tCenter.cnt xs : Nat))) ∧ Below w.heap.size w w' := by
  have hbig := h.big
  rw [mkAll_size] at hbig
  have H := hide h
  clear h
  go_enter Tryz.func99, Tryz.ntmps99
  go_wp2_with fail
  go_loopw [1, 5] (fun kk i wr => ∃ (j : Nat) (kj : Int), j ≤ xs.length ∧ i = .int .i64 j ∧ kj = k + (cntAll Lay.tCenter.cnt (xs.take j) : Nat) ∧ kk = .int .i64 kj ∧ Below w.heap.size w wr) (fun _ i _ => xs.length - (intOf i).toNat)
  case atStart => exact ⟨0, k, Nat.zero_le _, rfl, by simp [cntAll], rfl, Below.refl _ _⟩
  case round =>
    obtain ⟨j, kj, hj, rfl, hkj, rfl, hB⟩ := hrel
    by_cases hlt : j < xs.length
    · have hj2 : j < (mkAll Lay.tCenter.cnt Lay.tCenter.mkd k xs).length := by rw [mkAll_size]; exact hlt
      obtain ⟨row, hc, hr⟩ := Lay.row_at (unhide H) hj2
      rw [mkAll_at _ _ _ _ _ hlt hj2, ← hkj, mkd_Center] at hr
      have HT := hide (Lay.cntAll_take (f := Lay.tCenter.cnt) hlt)
      have hle := Lay.cntAll_take_le (f := Lay.tCenter.cnt) (xs := xs) (k := j + 1)
      rw [unhide HT] at hle
      clear hj2
      generalize hx : xs[j] = x at *
      clear hx
      have hcn := cnt_Center x
      have hb1 : 0 ≤ kj := by omega
      have hb2 : kj + (Lay.tCenter.cnt x : Int) ≤ 1000000000 := by omega
      have HK := hide hkj
      clear hkj hle
      replace hr := hr.later hB
      obtain ⟨a0, d0, rfl, R0⟩ := open_Center hr
      clear hr
      generalize hn : (⟨(Lay.sl Lay.int).mkv (kj) x.vec⟩ : DCenter).vec.length = n1 at *
      clear hn
      have c0 : wr.cell? ⟨b, off + j, none⟩ = some (.slice a0 n1 d0) := (hB.cell (p := ⟨b, off + j, none⟩) hbl).trans ((by have q1 : w.cell? ⟨b, off + j * 1 + 0, none⟩ = some (.slice a0 n1 d0) := hc 0 (by decide); rw [Nat.mul_one, Nat.add_zero] at q1; exact q1))
      have HB := hide hB
      clear hB hc
      go_wp2_with fail
      refine (held_Int64S _ x.vec (kj) _ R0 (by omega) (by omega)).mono ?_
      rintro e w2 ⟨rfl, hb⟩
      have l1 : b < wr.heap.size := Nat.lt_of_lt_of_le hbl (unhide HB).size
      replace HB := hide ((unhide HB).trans (hb.mono (unhide HB).size))
      clear hb R0 l1 c0
      have hq : decide (kj + ((Lay.sl Lay.int).vcnt x.vec : Int) < 0) = false := by simp; omega
      go_wp2_with fail
      go_roundw
      case rel => exact ⟨j + 1, _, by omega, by go_num, (by rw [unhide HT, hcn]; have := unhide HK; omega), rfl, unhide HB⟩
      case measure => simp [intOf]; omega
    · obtain rfl : j = xs.length := by omega
      rw [List.take_length] at hkj
      have HK := hide hkj
      have HB := hide hB
      clear hB hkj
      go_wp2_with fail
      go_ret
      exact ⟨by rw [← unhide HK]; rfl, unhide HB⟩

theorem heldCenter_zero (ao : Option Addr) (cap : Nat) (k : Int) (w : World) :
    Calls Tryz.prog 99 #[.slice ao 0 cap, .int .i64 k] w fun e w' => e = .returned (.int .i64 k) ∧ w' = w := by
  go_enter Tryz.func99, Tryz.ntmps99
  go_wp2_with fail
  refine wp_loop_rounds 1 ?_
  rw [rounds_succ]
  go_wp2_with fail
  go_ret
  exact ⟨rfl, rfl⟩

/-- heldCenterS. -/
theorem held_CenterS (v : Value) (xs : List DCenter) (k : Int) (w : World) (h : (Lay.sl Lay.tCenter).Reads w [v] ((Lay.sl Lay.tCenter).mkv k xs)) (hk : 0 ≤ k) (hk2 : k + (Lay.sl Lay.tCenter).vcnt xs ≤ 1000000000) :
    Calls Tryz.prog 99 #[v, .int .i64 k] w fun e w' => e = .returned (.int .i64 (k + (Lay.sl Lay.tCenter).vcnt xs)) ∧ Below w.heap.size w w' := by
  rw [mkv_CenterS] at h
  obtain ⟨ao, cap, rfl⟩ := open_sl h
  by_cases hp : 0 < xs.length
  · obtain ⟨b, off, rfl, hbl⟩ := Lay.sl_addr h (by rw [mkAll_size]; exact hp)
    have L := heldCenter_pos b off cap xs k w h hbl hk hk2
    rw [mkAll_size]
    exact L
  · obtain rfl : xs = [] := List.eq_nil_of_length_eq_zero (by omega)
    refine (heldCenter_zero ao cap k w).mono ?_
    rintro e w' ⟨rfl, rfl⟩
    exact ⟨by rw [vcnt_CenterS]; simp [cntAll], Below.refl _ _⟩

end Go.Proofs.YtfgadegpdknocaaGreat

namespace Go.Proofs.YtfgadegpdknocaaGreat
open Go.RowKit

set_option maxRecDepth 10000 in
set_option maxHeartbeats 2000000 in
theorem heldItem_pos (b off cap : Nat) (xs : List DItem) (k : Int) (w : World) (h : (Lay.sl Lay.tItem).Reads w [.slice (some ⟨b, off, none⟩) (mkAll Lay.tItem.cnt Lay.tItem.mkd k xs).length cap] (mkAll Lay.tItem.cnt Lay.tItem.mkd k xs)) (hbl : b < w.heap.size) (hk : 0 ≤ k) (hk2 : k + (cntAll Lay.tItem.cnt xs : Nat) ≤ 1000000000) :
    Calls Tryz.prog 130 #[.slice (some ⟨b, off, none⟩) xs.length cap, .int .i64 k] w fun e w' => e = .returned (.int .i64 (k + (cntAll Lay.tItem.cnt xs : Nat))) ∧ Below w.heap.size w w' := by
  have hbig := h.big
  rw [mkAll_size] at hbig
  have H := hide h
  clear h
  go_enter Tryz.func130, Tryz.ntmps130
  go_wp2_with fail
  go_loopw [1, 5] (fun kk i wr => ∃ (j : Nat) (kj : Int), j ≤ xs.length ∧ i = .int .i64 j ∧ kj = k + (cntAll Lay.tItem.cnt (xs.take j) : Nat) ∧ kk = .int .i64 kj ∧ Below w.heap.size w wr) (fun _ i _ => xs.length - (intOf i).toNat)
  case atStart => exact ⟨0, k, Nat.zero_le _, rfl, by simp [cntAll], rfl, Below.refl _ _⟩
  case round =>
    obtain ⟨j, kj, hj, rfl, hkj, rfl, hB⟩ := hrel
    by_cases hlt : j < xs.length
    · have hj2 : j < (mkAll Lay.tItem.cnt Lay.tItem.mkd k xs).length := by rw [mkAll_size]; exact hlt
      obtain ⟨row, hc, hr⟩ := Lay.row_at (unhide H) hj2
      rw [mkAll_at _ _ _ _ _ hlt hj2, ← hkj, mkd_Item] at hr
      have HT := hide (Lay.cntAll_take (f := Lay.tItem.cnt) hlt)
      have hle := Lay.cntAll_take_le (f := Lay.tItem.cnt) (xs := xs) (k := j + 1)
      rw [unhide HT] at hle
      clear hj2
      generalize hx : xs[j] = x at *
      clear hx
      have hcn := cnt_Item x
      have hb1 : 0 ≤ kj := by omega
      have hb2 : kj + (Lay.tItem.cnt x : Int) ≤ 1000000000 := by omega
      have HK := hide hkj
      clear hkj hle
      replace hr := hr.later hB
      obtain ⟨a1, d1, rfl, R1⟩ := open_Item hr
      clear hr
      generalize hn : (⟨kj, (Lay.sl Lay.int).mkv (kj + 1) x.vec⟩ : DItem).vec.length = n1 at *
      clear hn
      have c0 : wr.cell? ⟨b, off + j * 2, none⟩ = some (.int .i64 (kj)) := (hB.cell (p := ⟨b, off + j * 2, none⟩) hbl).trans (hc 0 (by decide))
      have e0 : ((kj : Int) != (kj : Int)) = false := by simp
      have c1 : wr.cell? ⟨b, off + j * 2 + 1, none⟩ = some (.slice a1 n1 d1) := (hB.cell (p := ⟨b, off + j * 2 + 1, none⟩) hbl).trans (hc 1 (by decide))
      have HB := hide hB
      clear hB hc
      go_wp2_with fail
      refine (held_Int64S _ x.vec (kj + 1) _ R1 (by omega) (by omega)).mono ?_
      rintro e w2 ⟨rfl, hb⟩
      have l1 : b < wr.heap.size := Nat.lt_of_lt_of_le hbl (unhide HB).size
      replace HB := hide ((unhide HB).trans (hb.mono (unhide HB).size))
      clear hb R1 l1 c0 c1
      have hq : decide (kj + 1 + ((Lay.sl Lay.int).vcnt x.vec : Int) < 0) = false := by simp; omega
      go_wp2_with fail
      go_roundw
      case rel => exact ⟨j + 1, _, by omega, by go_num, (by rw [unhide HT, hcn]; have := unhide HK; omega), rfl, unhide HB⟩
      case measure => simp [intOf]; omega
    · obtain rfl : j = xs.length := by omega
      rw [List.take_length] at hkj
      have HK := hide hkj
      have HB := hide hB
      clear hB hkj
      go_wp2_with fail
      go_ret
      exact ⟨by rw [← unhide HK]; rfl, unhide HB⟩

theorem heldItem_zero (ao : Option Addr) (cap : Nat) (k : Int) (w : World) :
    Calls Tryz.prog 130 #[.slice ao 0 cap, .int .i64 k] w fun e w' => e = .returned (.int .i64 k) ∧ w' = w := by
  go_enter Tryz.func130, Tryz.ntmps130
  go_wp2_with fail
  refine wp_loop_rounds 1 ?_
  rw [rounds_succ]
  go_wp2_with fail
  go_ret
  exact ⟨rfl, rfl⟩

/-- heldItemS. -/
theorem held_ItemS (v : Value) (xs : List DItem) (k : Int) (w : World) (h : (Lay.sl Lay.tItem).Reads w [v] ((Lay.sl Lay.tItem).mkv k xs)) (hk : 0 ≤ k) (hk2 : k + (Lay.sl Lay.tItem).vcnt xs ≤ 1000000000) :
    Calls Tryz.prog 130 #[v, .int .i64 k] w fun e w' => e = .returned (.int .i64 (k + (Lay.sl Lay.tItem).vcnt xs)) ∧ Below w.heap.size w w' := by
  rw [mkv_ItemS] at h
  obtain ⟨ao, cap, rfl⟩ := open_sl h
  by_cases hp : 0 < xs.length
  · obtain ⟨b, off, rfl, hbl⟩ := Lay.sl_addr h (by rw [mkAll_size]; exact hp)
    have L := heldItem_pos b off cap xs k w h hbl hk hk2
    rw [mkAll_size]
    exact L
  · obtain rfl : xs = [] := List.eq_nil_of_length_eq_zero (by omega)
    refine (heldItem_zero ao cap k w).mono ?_
    rintro e w' ⟨rfl, rfl⟩
    exact ⟨by rw [vcnt_ItemS]; simp [cntAll], Below.refl _ _⟩

end Go.Proofs.YtfgadegpdknocaaGreat

namespace Go.Proofs.YtfgadegpdknocaaGreat
open Go.RowKit

set_option maxRecDepth 10000 in
set_option maxHeartbeats 2000000 in
theorem heldIvfList_pos (b off cap : Nat) (xs : List DIvfList) (k : Int) (w : World) (h : (Lay.sl Lay.tIvfList).Reads w [.slice (some ⟨b, off, none⟩) (mkAll Lay.tIvfList.cnt Lay.tIvfList.mkd k xs).length cap] (mkAll Lay.tIvfList.cnt Lay.tIvfList.mkd k xs)) (hbl : b < w.heap.size) (hk : 0 ≤ k) (hk2 : k + (cntAll Lay.tIvfList.cnt xs : Nat) ≤ 1000000000) :
    Calls Tryz.prog 100 #[.slice (some ⟨b, off, none⟩) xs.length cap, .int .i64 k] w fun e w' => e = .returned (.int .i64 (k + (cntAll Lay.tIvfList.cnt xs : Nat))) ∧ Below w.heap.size w w' := by
  have hbig := h.big
  rw [mkAll_size] at hbig
  have H := hide h
  clear h
  go_enter Tryz.func100, Tryz.ntmps100
  go_wp2_with fail
  go_loopw [1, 5] (fun kk i wr => ∃ (j : Nat) (kj : Int), j ≤ xs.length ∧ i = .int .i64 j ∧ kj = k + (cntAll Lay.tIvfList.cnt (xs.take j) : Nat) ∧ kk = .int .i64 kj ∧ Below w.heap.size w wr) (fun _ i _ => xs.length - (intOf i).toNat)
  case atStart => exact ⟨0, k, Nat.zero_le _, rfl, by simp [cntAll], rfl, Below.refl _ _⟩
  case round =>
    obtain ⟨j, kj, hj, rfl, hkj, rfl, hB⟩ := hrel
    by_cases hlt : j < xs.length
    · have hj2 : j < (mkAll Lay.tIvfList.cnt Lay.tIvfList.mkd k xs).length := by rw [mkAll_size]; exact hlt
      obtain ⟨row, hc, hr⟩ := Lay.row_at (unhide H) hj2
      rw [mkAll_at _ _ _ _ _ hlt hj2, ← hkj, mkd_IvfList] at hr
      have HT := hide (Lay.cntAll_take (f := Lay.tIvfList.cnt) hlt)
      have hle := Lay.cntAll_take_le (f := Lay.tIvfList.cnt) (xs := xs) (k := j + 1)
      rw [unhide HT] at hle
      clear hj2
      generalize hx : xs[j] = x at *
      clear hx
      have hcn := cnt_IvfList x
      have hb1 : 0 ≤ kj := by omega
      have hb2 : kj + (Lay.tIvfList.cnt x : Int) ≤ 1000000000 := by omega
      have HK := hide hkj
      clear hkj hle
      replace hr := hr.later hB
      obtain ⟨a0, d0, rfl, R0⟩ := open_IvfList hr
      clear hr
      generalize hn : (⟨(Lay.sl Lay.tItem).mkv (kj) x.items⟩ : DIvfList).items.length = n1 at *
      clear hn
      have c0 : wr.cell? ⟨b, off + j, none⟩ = some (.slice a0 n1 d0) := (hB.cell (p := ⟨b, off + j, none⟩) hbl).trans ((by have q1 : w.cell? ⟨b, off + j * 1 + 0, none⟩ = some (.slice a0 n1 d0) := hc 0 (by decide); rw [Nat.mul_one, Nat.add_zero] at q1; exact q1))
      have HB := hide hB
      clear hB hc
      go_wp2_with fail
      refine (held_ItemS _ x.items (kj) _ R0 (by omega) (by omega)).mono ?_
      rintro e w2 ⟨rfl, hb⟩
      have l1 : b < wr.heap.size := Nat.lt_of_lt_of_le hbl (unhide HB).size
      replace HB := hide ((unhide HB).trans (hb.mono (unhide HB).size))
      clear hb R0 l1 c0
      have hq : decide (kj + ((Lay.sl Lay.tItem).vcnt x.items : Int) < 0) = false := by simp; omega
      go_wp2_with fail
      go_roundw
      case rel => exact ⟨j + 1, _, by omega, by go_num, (by rw [unhide HT, hcn]; have := unhide HK; omega), rfl, unhide HB⟩
      case measure => simp [intOf]; omega
    · obtain rfl : j = xs.length := by omega
      rw [List.take_length] at hkj
      have HK := hide hkj
      have HB := hide hB
      clear hB hkj
      go_wp2_with fail
      go_ret
      exact ⟨by rw [← unhide HK]; rfl, unhide HB⟩

theorem heldIvfList_zero (ao : Option Addr) (cap : Nat) (k : Int) (w : World) :
    Calls Tryz.prog 100 #[.slice ao 0 cap, .int .i64 k] w fun e w' => e = .returned (.int .i64 k) ∧ w' = w := by
  go_enter Tryz.func100, Tryz.ntmps100
  go_wp2_with fail
  refine wp_loop_rounds 1 ?_
  rw [rounds_succ]
  go_wp2_with fail
  go_ret
  exact ⟨rfl, rfl⟩

/-- heldIvfListS. -/
theorem held_IvfListS (v : Value) (xs : List DIvfList) (k : Int) (w : World) (h : (Lay.sl Lay.tIvfList).Reads w [v] ((Lay.sl Lay.tIvfList).mkv k xs)) (hk : 0 ≤ k) (hk2 : k + (Lay.sl Lay.tIvfList).vcnt xs ≤ 1000000000) :
    Calls Tryz.prog 100 #[v, .int .i64 k] w fun e w' => e = .returned (.int .i64 (k + (Lay.sl Lay.tIvfList).vcnt xs)) ∧ Below w.heap.size w w' := by
  rw [mkv_IvfListS] at h
  obtain ⟨ao, cap, rfl⟩ := open_sl h
  by_cases hp : 0 < xs.length
  · obtain ⟨b, off, rfl, hbl⟩ := Lay.sl_addr h (by rw [mkAll_size]; exact hp)
    have L := heldIvfList_pos b off cap xs k w h hbl hk hk2
    rw [mkAll_size]
    exact L
  · obtain rfl : xs = [] := List.eq_nil_of_length_eq_zero (by omega)
    refine (heldIvfList_zero ao cap k w).mono ?_
    rintro e w' ⟨rfl, rfl⟩
    exact ⟨by rw [vcnt_IvfListS]; simp [cntAll], Below.refl _ _⟩

end Go.Proofs.YtfgadegpdknocaaGreat

namespace Go.Proofs.YtfgadegpdknocaaGreat
open Go.RowKit

set_option maxRecDepth 10000 in
set_option maxHeartbeats 1000000 in
theorem held_Ivf (cs : List Value) (x : DIvf) (k : Int) (w : World) (h : Lay.tIvf.Reads w cs (Lay.tIvf.mkv k x)) (hk : 0 ≤ k) (hk2 : k + Lay.tIvf.vcnt x ≤ 1000000000) :
    Calls Tryz.prog 55 #[.agg cs.toArray, .int .i64 k] w fun e w' => e = .returned (.int .i64 (k + Lay.tIvf.vcnt x)) ∧ Below w.heap.size w w' := by
  rw [mkv_Ivf] at h
  rw [vcnt_Ivf] at hk2
  have HV := hide (vcnt_Ivf x)
  obtain ⟨a0, d0, a1, d1, rfl, R0, R1⟩ := open_Ivf h
  clear h
  generalize hn0 : (⟨(Lay.sl Lay.tCenter).mkv (k) x.centers, (Lay.sl Lay.tIvfList).mkv (k + ((Lay.sl Lay.tCenter).vcnt x.centers : Int)) x.lists⟩ : DIvf).centers.length = n0 at *
  generalize hn1 : (⟨(Lay.sl Lay.tCenter).mkv (k) x.centers, (Lay.sl Lay.tIvfList).mkv (k + ((Lay.sl Lay.tCenter).vcnt x.centers : Int)) x.lists⟩ : DIvf).lists.length = n1 at *
  clear hn0 hn1
  have HB0 : Below w.heap.size w (w.alloc (.cells #[.slice a0 n0 d0, .slice a1 n1 d1] 31)) := (Below.refl _ _).alloc (Nat.le_refl _) _
  have bA : Box w.heap.size #[.slice a0 n0 d0, .slice a1 n1 d1] 31 (w.alloc (.cells #[.slice a0 n0 d0, .slice a1 n1 d1] 31)) w.heap.size := newBox (Nat.le_refl _)
  go_enter Tryz.func55, Tryz.ntmps55
  go_wp2_with fail
  generalize w.alloc (.cells #[.slice a0 n0 d0, .slice a1 n1 d1] 31) = W0 at *
  replace R0 := R0.later HB0
  replace R1 := R1.later HB0
  refine (held_CenterS _ x.centers (k) _ R0 (by omega) (by omega)).mono ?_
  rintro e w1 ⟨rfl, hb⟩
  replace HB0 := HB0.trans (hb.mono HB0.size)
  replace bA := bA.keep hb
  replace R1 := R1.later hb
  have p1 := bA.at 1 _ rfl
  have HA := hide bA
  have HX := hide HB0
  clear bA HB0 hb R0
  have P1 := hide R1
  clear R1
  have hq : decide (k + ((Lay.sl Lay.tCenter).vcnt x.centers : Int) < 0) = false := by simp; omega
  go_wp2_with fail
  clear hq
  have bA := unhide HA
  have HB0 := unhide HX
  clear HA HX
  have R1 := unhide P1
  clear P1
  clear p1
  refine (held_IvfListS _ x.lists (k + ((Lay.sl Lay.tCenter).vcnt x.centers : Int)) _ R1 (by omega) (by omega)).mono ?_
  rintro e w2 ⟨rfl, hb⟩
  replace HB0 := HB0.trans (hb.mono HB0.size)
  replace bA := bA.keep hb
  have HA := hide bA
  have HX := hide HB0
  clear bA HB0 hb R1
  have hq : decide (k + ((Lay.sl Lay.tCenter).vcnt x.centers : Int) + ((Lay.sl Lay.tIvfList).vcnt x.lists : Int) < 0) = false := by simp; omega
  go_wp2_with fail
  clear hq
  go_ret
  refine ⟨?_, unhide HX⟩
  rw [show k + (Lay.tIvf.vcnt x : Int) = k + ((Lay.sl Lay.tCenter).vcnt x.centers : Int) + ((Lay.sl Lay.tIvfList).vcnt x.lists : Int) by rw [unhide HV]; omega]
  rfl

end Go.Proofs.YtfgadegpdknocaaGreat

namespace Go.Proofs.YtfgadegpdknocaaGreat
open Go.RowKit

set_option maxRecDepth 10000 in
set_option maxHeartbeats 1000000 in
theorem held_IvfResult (cs : List Value) (x : DIvfResult) (k : Int) (w : World) (h : Lay.tIvfResult.Reads w cs (Lay.tIvfResult.mkv k x)) (hk : 0 ≤ k) (hk2 : k + Lay.tIvfResult.vcnt x ≤ 1000000000) :
    Calls Tryz.prog 18 #[.agg cs.toArray, .int .i64 k] w fun e w' => e = .returned (.int .i64 (k + Lay.tIvfResult.vcnt x)) ∧ Below w.heap.size w w' := by
  rw [mkv_IvfResult] at h
  rw [vcnt_IvfResult] at hk2
  have HV := hide (vcnt_IvfResult x)
  obtain ⟨a1, d1, a2, d2, rfl, R1⟩ := open_IvfResult h
  clear h
  generalize hn1 : (⟨x.code, Lay.tIvf.mkv (k) x.ivf⟩ : DIvfResult).ivf.centers.length = n1 at *
  generalize hn2 : (⟨x.code, Lay.tIvf.mkv (k) x.ivf⟩ : DIvfResult).ivf.lists.length = n2 at *
  clear hn1 hn2
  have HB0 : Below w.heap.size w (w.alloc (.cells #[.int .i64 x.code, .slice a1 n1 d1, .slice a2 n2 d2] 33)) := (Below.refl _ _).alloc (Nat.le_refl _) _
  have bA : Box w.heap.size #[.int .i64 x.code, .slice a1 n1 d1, .slice a2 n2 d2] 33 (w.alloc (.cells #[.int .i64 x.code, .slice a1 n1 d1, .slice a2 n2 d2] 33)) w.heap.size := newBox (Nat.le_refl _)
  go_enter Tryz.func18, Tryz.ntmps18
  go_wp2_with fail
  generalize w.alloc (.cells #[.int .i64 x.code, .slice a1 n1 d1, .slice a2 n2 d2] 33) = W0 at *
  replace R1 := R1.later HB0
  refine (held_Ivf _ x.ivf (k) _ R1 (by omega) (by omega)).mono ?_
  rintro e w1 ⟨rfl, hb⟩
  replace HB0 := HB0.trans (hb.mono HB0.size)
  replace bA := bA.keep hb
  have HA := hide bA
  have HX := hide HB0
  clear bA HB0 hb R1
  have hq : decide (k + (Lay.tIvf.vcnt x.ivf : Int) < 0) = false := by simp; omega
  go_wp2_with fail
  clear hq
  go_ret
  refine ⟨?_, unhide HX⟩
  rw [show k + (Lay.tIvfResult.vcnt x : Int) = k + (Lay.tIvf.vcnt x.ivf : Int) by rw [unhide HV]]
  rfl

end Go.Proofs.YtfgadegpdknocaaGreat
