/-
  Texts of this proof in one: SpecMean6, AppCenter, SpecMove, SpecCost.
  Their conditions stand in their theorems.
-/
import Derived.Test.YtjofcmdlcoganaaTq07
import Derived.Test.YtjofcmdlcoganaaTq05
import Derived.Test.YtjofcmdlcoganaaTq02
import Derived.Test.YtjofcmdlcoganaaChecked
import Derived.Test.YtjofcmdlcoganaaTq01
import Derived.Test.YtjofcmdlcoganaaTq04

namespace Go.Proofs.Ytjofcmdlcoganaa
open Go.RowKit

/-- The sums, where the first j parts are of one item more. -/
def mixF (cs : List DCenter) (xs : List DItem) (p k : Nat) (x : DItem) (j : Nat) : Nat → Int := fun q => if q < j then sumK cs xs p q k + x.vec.getD q 0 else sumK cs xs p q k
theorem mix_step (cs : List DCenter) (xs : List DItem) (p k : Nat) (x : DItem) (j : Nat) (_hj : j < 3) (q : Nat) : mixF cs xs p k x (j + 1) q = upd1 (mixF cs xs p k x j) j (mixF cs xs p k x j j + x.vec.getD j 0) q := by
  unfold mixF upd1
  by_cases h1 : q = j
  · subst h1
    rw [if_pos (by omega), if_pos rfl, if_neg (by omega)]
  · rw [if_neg h1]
    by_cases h2 : q < j
    · rw [if_pos (by omega)]
      exact (if_pos h2).symm
    · rw [if_neg (by omega)]
      exact (if_neg h2).symm
theorem isInts_sums {w : World} {g : Nat} {f : Nat → Int} (h : Sums1 w g 3 f) (hw : ∀ j, j < 3 → (Lit.int .i64 (f j)).wf = true) : IsInts w (.slice (some ⟨g, 0, none⟩) 3 3) [f 0, f 1, f 2] := by
  refine ⟨_, 3, rfl, ?_, fun _ => ⟨g, 0, rfl, fun j hj => ?_⟩⟩
  · intro z hz
    simp only [List.mem_cons, List.not_mem_nil, or_false] at hz
    rcases hz with rfl | rfl | rfl
    · exact hw 0 (by omega)
    · exact hw 1 (by omega)
    · exact hw 2 (by omega)
  · have hj3 : j < 3 := by simpa using hj
    rw [Nat.zero_add, h.cell j hj3]
    match j, hj3 with
    | 0, _ => rfl
    | 1, _ => rfl
    | 2, _ => rfl
theorem sums_new (w : World) : Sums1 (w.alloc (.cells #[.int .i64 0, .int .i64 0, .int .i64 0] 2)) w.heap.size 3 (fun _ => 0) := by
  refine ⟨by simp, fun o => by simp [go_sem], fun p hp => ?_⟩
  match p, hp with
  | 0, _ => simp [go_sem]
  | 1, _ => simp [go_sem]
  | 2, _ => simp [go_sem]

set_option maxRecDepth 100000 in
set_option maxHeartbeats 4000000 in
theorem specMean6_pos (b0 off0 cap0 : Nat) (cs : List DCenter) (ao : Option Addr) (cap : Nat) (xs : List DItem) (p : Nat) (w : World) (hcs : (Lay.sl Lay.tCenter).Reads w [.slice (some ⟨b0, off0, none⟩) cs.length cap0] cs) (hbl0 : b0 < w.heap.size) (h : (Lay.sl Lay.tItem).Reads w [.slice ao xs.length cap] xs) (hfc : centersFault cs = 0) (hft : tableFault xs = 0) (hp : p < cs.length) :
    Calls Try.prog 85 #[.slice (some ⟨b0, off0, none⟩) cs.length cap0, .slice ao xs.length cap, .int .i64 p] w fun e w' => ∃ v', e = .returned v' ∧ (Lay.sl Lay.int).OwnIn w' [v'] (meanAt cs xs p) w.heap.size w'.heap.size ∧ Below w.heap.size w w' := by
  obtain ⟨hlen, hall, -⟩ := tableFault_zero hft
  obtain ⟨⟨hn1, hn6⟩, hcv⟩ := centersFault_zero hfc
  have hxv : ∀ x ∈ xs, vecFault x.vec = 0 := fun x hm => (hall x hm).2
  have HXV := hide hxv
  have HCV := hide hcv
  have HFC := hide hfc
  have HFT := hide hft
  have HC := hide hcs
  have HX := hide h
  have HS0 := hide (sums_new w)
  have HB0 : Hid (Below w.heap.size w (w.alloc (.cells #[.int .i64 0, .int .i64 0, .int .i64 0] 2))) := (Below.refl _ _).alloc (Nat.le_refl _) _
  clear hcs h hall hxv hfc hft hcv
  go_enter Try.func85, Try.ntmps85
  go_wp2_with fail
  go_loopw [8, 9] (fun a i wr => ∃ k : Nat, k ≤ xs.length ∧ i = .int .i64 k ∧ a = .int .i64 (cntK cs xs p k) ∧ Sums1 wr w.heap.size 3 (fun j => sumK cs xs p j k) ∧ Below w.heap.size w wr) (fun _ i _ => xs.length - (intOf i).toNat)
  case atStart => exact ⟨0, Nat.zero_le _, rfl, rfl, unhide HS0, unhide HB0⟩
  case round =>
    obtain ⟨k, hk, rfl, rfl, hS, hB⟩ := hrel
    clear HS0 HB0
    by_cases hlt : k < xs.length
    · obtain ⟨b, off, rfl, hbl⟩ := Lay.sl_addr (unhide HX) (by omega)
      obtain ⟨row, hc, hr⟩ := Lay.row_at (unhide HX) hlt
      obtain ⟨a1, d1, rfl, R1⟩ := open_Item hr
      have c1 : w.cell? ⟨b, off + k * 2 + 1, none⟩ = some (.slice a1 (xs[k]).vec.length d1) := hc 1 (by decide)
      have hvx := unhide HXV xs[k] (List.getElem_mem hlt)
      have hcb := cntK_bd cs xs p k
      have hsb : ∀ j, j < 3 → -30000 ≤ sumK cs xs p j k ∧ sumK cs xs p j k ≤ 30000 := fun j hj => by have := sumK_bd cs (unhide HXV) p j hj k hk; omega
      have HST := hide (fun j => sumK_step cs xs p j k hlt)
      have HCT := hide (cntK_step cs xs p k hlt)
      clear hc hr
      generalize hx : xs[k] = x at *
      clear hx
      have hl3 := (vecFault_zero hvx).1
      have hvb := (vecFault_zero hvx).2
      obtain ⟨b3, off3, rfl, hbl3⟩ := Lay.sl_addr R1 (by omega)
      have I1 := Lay.ints_reads R1
      have hz : ∀ j, j < 3 → w.cell? ⟨b3, off3 + j, none⟩ = some (.int .i64 (x.vec.getD j 0)) := by
        obtain ⟨_, _, e, -, hcz⟩ := I1
        obtain ⟨b', o', e2, hcz⟩ := hcz (by omega)
        simp only [Value.slice.injEq] at e
        obtain ⟨rfl, -, -⟩ := e
        simp only [Option.some.injEq, Addr.mk.injEq, and_true] at e2
        obtain ⟨rfl, rfl⟩ := e2
        exact fun j hj => hcz j (by omega)
      have LN := hide (specNear _ cs _ x.vec wr ((unhide HC).later hB) (I1.later hB) (unhide HFC) hvx)
      have cr : wr.cell? ⟨b, off + k * 2 + 1, none⟩ = some (.slice (some ⟨b3, off3, none⟩) x.vec.length d1) := (hB.cell (p := ⟨b, off + k * 2 + 1, none⟩) hbl).trans c1
      rw [hl3] at LN c1 cr
      have HS := hide hS
      have HB := hide hB
      have HZ := hide hz
      have HVB := hide hvb
      have HSB := hide hsb
      clear hS hB I1 R1 hvx hz hl3 hvb hsb
      generalize hnr : near cs x.vec = nr at *
      clear hnr
      go_wp2_with fail
      refine (unhide LN).mono ?_
      rintro e w3 ⟨rfl, hb3⟩
      have HS3 := hide ((unhide HS).later hb3)
      have HB3 := hide ((unhide HB).trans (hb3.mono (unhide HB).size))
      clear hb3 LN HS HB cr
      by_cases he : nr = p
      · subst he
        have hd : (((nr : Nat) : Int) != ((nr : Nat) : Int)) = false := by simp
        have HST2 : Hid (∀ j, sumK cs xs nr j (k + 1) = sumK cs xs nr j k + x.vec.getD j 0) := fun j => (unhide HST j).trans (if_pos rfl)
        have HCT2 : Hid (cntK cs xs nr (k + 1) = cntK cs xs nr k + 1) := (unhide HCT).trans (if_pos rfl)
        clear HST HCT
        go_wp2_with fail
        clear hd
        rename World => wo
        go_loopw [10] (fun i wr => ∃ j : Nat, j ≤ 3 ∧ i = .int .i64 j ∧ Sums1 wr w.heap.size 3 (mixF cs xs nr k x j) ∧ Below w.heap.size w wr) (fun i _ => 3 - (intOf i).toNat)
        case atStart => exact ⟨0, Nat.zero_le _, rfl, (unhide HS3).same (fun q => if_neg (by omega)), unhide HB3⟩
        case round =>
          obtain ⟨j, hj, rfl, hS, hB⟩ := hrel
          clear HS3 HB3
          by_cases hlj : j < 3
          · have hvj := unhide HVB j hlj
            have hsj := unhide HSB j hlj
            have hmj : mixF cs xs nr k x j j = sumK cs xs nr j k := if_neg (by omega)
            rw [← hmj] at hsj
            have hSD : Sums1 wr.drew w.heap.size 3 (mixF cs xs nr k x j) := hS.drew
            have hBD : Below w.heap.size w wr.drew := hB.drew
            have c1D : wr.cell? ⟨b, off + k * 2 + 1, none⟩ = some (.slice (some ⟨b3, off3, none⟩) 3 d1) := (hB.cell (p := ⟨b, off + k * 2 + 1, none⟩) hbl).trans c1
            have czD : wr.cell? ⟨b3, off3 + j, none⟩ = some (.int .i64 (x.vec.getD j 0)) := (hB.cell (p := ⟨b3, off3 + j, none⟩) hbl3).trans (unhide HZ j hlj)
            have hzr := hB.size
            have ew : IntKind.i64.wrap (mixF cs xs nr k x j j + x.vec.getD j 0) = mixF cs xs nr k x j j + x.vec.getD j 0 := by simp only [IntKind.wrap_i64]; omega
            have hsc : wr.drew.cell? ⟨w.heap.size, j, none⟩ = some (.int .i64 (mixF cs xs nr k x j j)) := hS.cell j hlj
            have HMS := hide (mix_step cs xs nr k x j hlj)
            clear hS hB hmj
            generalize hmj : mixF cs xs nr k x j j = mj at *
            clear hmj
            generalize x.vec.getD j 0 = xj at *
            have i1 : (0 : Int) ≤ (j : Int) := by omega
            have i2 : (j : Int) < 3 := by omega
            have i3 : (0 : Int) ≤ (k : Int) := by omega
            have i4 : (k : Int) < (xs.length : Int) := by omega
            go_wp2_with fail
            refine wp_region_noPanic ?_
            refine wp_region_held_drew (S := fun w' => Ext (fun c => c = w.heap.size) wr w') (by kernel_rfl) (Ext.refl _ _).drewX (fun hHeld => ?_)
            generalize wr.drew = wD at hHeld hSD hBD hsc ⊢
            refine wpAnyH_take (i := 0) (oi := { dst := some 33, op := Go.Op.move (Go.Operand.tmp 7), type := 25, pos := "l06_center.go:84", after := #[], guard := none }) (v := ?v0_1) rfl (by kernel_rfl) (by kernel_rfl) (by kernel_rfl) (fun _ _ _ h => h) (Or.inl ⟨by rfl, ?h0_1⟩) hHeld ?r0_1
            case h0_1 =>
              intro wS hSw
              (try dsimp only at hSw)
              go_simp
              try with_reducible rfl
            case r0_1 =>
            simp only [Act.put, List.setIfInBounds_toArray, List.set_cons_zero, List.set_cons_succ]
            refine wpAnyH_take (i := 1) (oi := { dst := some 34, op := Go.Op.move (Go.Operand.tmp 10), type := 3, pos := "l06_center.go:84", after := #[], guard := none }) (v := ?v1_2) rfl (by kernel_rfl) (by kernel_rfl) (by kernel_rfl) (fun _ _ _ h => h) (Or.inl ⟨by rfl, ?h1_2⟩) hHeld ?r1_2
            case h1_2 =>
              intro wS hSw
              (try dsimp only at hSw)
              go_simp
              try with_reducible rfl
            case r1_2 =>
            simp only [Act.put, List.setIfInBounds_toArray, List.set_cons_zero, List.set_cons_succ]
            refine wpAnyH_take (i := 2) (oi := { dst := some 35, op := Go.Op.move (Go.Operand.tmp 7), type := 25, pos := "l06_center.go:84", after := #[], guard := none }) (v := ?v2_3) rfl (by kernel_rfl) (by kernel_rfl) (by kernel_rfl) (fun _ _ _ h => h) (Or.inl ⟨by rfl, ?h2_3⟩) hHeld ?r2_3
            case h2_3 =>
              intro wS hSw
              (try dsimp only at hSw)
              go_simp
              try with_reducible rfl
            case r2_3 =>
            simp only [Act.put, List.setIfInBounds_toArray, List.set_cons_zero, List.set_cons_succ]
            refine wpAnyH_take (i := 3) (oi := { dst := some 36, op := Go.Op.move (Go.Operand.tmp 10), type := 3, pos := "l06_center.go:84", after := #[], guard := none }) (v := ?v3_4) rfl (by kernel_rfl) (by kernel_rfl) (by kernel_rfl) (fun _ _ _ h => h) (Or.inl ⟨by rfl, ?h3_4⟩) hHeld ?r3_4
            case h3_4 =>
              intro wS hSw
              (try dsimp only at hSw)
              go_simp
              try with_reducible rfl
            case r3_4 =>
            simp only [Act.put, List.setIfInBounds_toArray, List.set_cons_zero, List.set_cons_succ]
            refine wpAnyH_take (i := 4) (oi := { dst := some 37, op := Go.Op.indexAddr 25 (Go.Operand.tmp 35) (Go.Operand.tmp 36), type := 0, pos := "l06_center.go:84", after := #[{ on := 2, ground := Go.Ground.data }, { on := 3, ground := Go.Ground.data }], guard := none }) (v := ?v4_5) rfl (by kernel_rfl) (by kernel_rfl) (by kernel_rfl) (fun _ _ _ h => h) (Or.inl ⟨by rfl, ?h4_5⟩) hHeld ?r4_5
            case h4_5 =>
              intro wS hSw
              (try dsimp only at hSw)
              go_simp
              try with_reducible rfl
            case r4_5 =>
            simp only [Act.put, List.setIfInBounds_toArray, List.set_cons_zero, List.set_cons_succ]
            refine wpAnyH_take (i := 6) (oi := { dst := some 39, op := Go.Op.move (Go.Operand.tmp 1), type := 24, pos := "l06_center.go:84", after := #[], guard := none }) (v := ?v6_6) rfl (by kernel_rfl) (by kernel_rfl) (by kernel_rfl) (fun _ _ _ h => h) (Or.inl ⟨by rfl, ?h6_6⟩) hHeld ?r6_6
            case h6_6 =>
              intro wS hSw
              (try dsimp only at hSw)
              go_simp
              try with_reducible rfl
            case r6_6 =>
            simp only [Act.put, List.setIfInBounds_toArray, List.set_cons_zero, List.set_cons_succ]
            refine wpAnyH_take (i := 7) (oi := { dst := some 40, op := Go.Op.move (Go.Operand.tmp 9), type := 3, pos := "l06_center.go:84", after := #[], guard := none }) (v := ?v7_7) rfl (by kernel_rfl) (by kernel_rfl) (by kernel_rfl) (fun _ _ _ h => h) (Or.inl ⟨by rfl, ?h7_7⟩) hHeld ?r7_7
            case h7_7 =>
              intro wS hSw
              (try dsimp only at hSw)
              go_simp
              try with_reducible rfl
            case r7_7 =>
            simp only [Act.put, List.setIfInBounds_toArray, List.set_cons_zero, List.set_cons_succ]
            refine wpAnyH_take (i := 8) (oi := { dst := some 41, op := Go.Op.indexAddr 24 (Go.Operand.tmp 39) (Go.Operand.tmp 40), type := 0, pos := "l06_center.go:84", after := #[{ on := 6, ground := Go.Ground.data }, { on := 7, ground := Go.Ground.data }], guard := none }) (v := ?v8_8) rfl (by kernel_rfl) (by kernel_rfl) (by kernel_rfl) (fun _ _ _ h => h) (Or.inl ⟨by rfl, ?h8_8⟩) hHeld ?r8_8
            case h8_8 =>
              intro wS hSw
              (try dsimp only at hSw)
              go_simp
              try with_reducible rfl
            case r8_8 =>
            simp only [Act.put, List.setIfInBounds_toArray, List.set_cons_zero, List.set_cons_succ]
            refine wpAnyH_take (i := 9) (oi := { dst := some 42, op := Go.Op.fieldAddr 41 (Go.Operand.tmp 41) 1, type := 0, pos := "l06_center.go:84", after := #[{ on := 8, ground := Go.Ground.data }], guard := none }) (v := ?v9_9) rfl (by kernel_rfl) (by kernel_rfl) (by kernel_rfl) (fun _ _ _ h => h) (Or.inl ⟨by rfl, ?h9_9⟩) hHeld ?r9_9
            case h9_9 =>
              intro wS hSw
              (try dsimp only at hSw)
              go_simp
              try with_reducible rfl
            case r9_9 =>
            simp only [Act.put, List.setIfInBounds_toArray, List.set_cons_zero, List.set_cons_succ]
            refine wpAnyH_take (i := 10) (oi := { dst := some 43, op := Go.Op.load 25 (Go.Operand.tmp 42), type := 25, pos := "l06_center.go:84", after := #[{ on := 9, ground := Go.Ground.data }], guard := none }) (v := ?v10_10) rfl (by kernel_rfl) (by kernel_rfl) (by kernel_rfl) (fun _ _ _ h => h) (Or.inl ⟨by rfl, ?h10_10⟩) hHeld ?r10_10
            case h10_10 =>
              intro wS hSw
              have y1 : wS.cell? ⟨b, off + k * 2 + 1, none⟩ = some (.slice (some ⟨b3, off3, none⟩) 3 d1) := (cell_of_heap (hSw.block b (by omega) (by omega)) _).trans c1D
              clear hSw
              (try dsimp only at hSw)
              go_simp
              try with_reducible rfl
            case r10_10 =>
            simp only [Act.put, List.setIfInBounds_toArray, List.set_cons_zero, List.set_cons_succ]
            refine wpAnyH_take (i := 11) (oi := { dst := some 44, op := Go.Op.move (Go.Operand.tmp 10), type := 3, pos := "l06_center.go:84", after := #[], guard := none }) (v := ?v11_11) rfl (by kernel_rfl) (by kernel_rfl) (by kernel_rfl) (fun _ _ _ h => h) (Or.inl ⟨by rfl, ?h11_11⟩) hHeld ?r11_11
            case h11_11 =>
              intro wS hSw
              (try dsimp only at hSw)
              go_simp
              try with_reducible rfl
            case r11_11 =>
            simp only [Act.put, List.setIfInBounds_toArray, List.set_cons_zero, List.set_cons_succ]
            refine wpAnyH_take (i := 12) (oi := { dst := some 45, op := Go.Op.indexAddr 25 (Go.Operand.tmp 43) (Go.Operand.tmp 44), type := 0, pos := "l06_center.go:84", after := #[{ on := 10, ground := Go.Ground.data }, { on := 11, ground := Go.Ground.data }], guard := none }) (v := ?v12_12) rfl (by kernel_rfl) (by kernel_rfl) (by kernel_rfl) (fun _ _ _ h => h) (Or.inl ⟨by rfl, ?h12_12⟩) hHeld ?r12_12
            case h12_12 =>
              intro wS hSw
              (try dsimp only at hSw)
              go_simp
              try with_reducible rfl
            case r12_12 =>
            simp only [Act.put, List.setIfInBounds_toArray, List.set_cons_zero, List.set_cons_succ]
            refine wpAnyH_take (i := 13) (oi := { dst := some 46, op := Go.Op.load 2 (Go.Operand.tmp 45), type := 2, pos := "l06_center.go:84", after := #[{ on := 12, ground := Go.Ground.data }], guard := none }) (v := ?v13_13) rfl (by kernel_rfl) (by kernel_rfl) (by kernel_rfl) (fun _ _ _ h => h) (Or.inl ⟨by rfl, ?h13_13⟩) hHeld ?r13_13
            case h13_13 =>
              intro wS hSw
              have y1 : wS.cell? ⟨b3, off3 + j, none⟩ = some (.int .i64 xj) := (cell_of_heap (hSw.block b3 (by omega) (by omega)) _).trans czD
              clear hSw
              (try dsimp only at hSw)
              go_simp
              try with_reducible rfl
            case r13_13 =>
            simp only [Act.put, List.setIfInBounds_toArray, List.set_cons_zero, List.set_cons_succ]
            refine wpAnyH_ready (rs := [5]) (by kernel_rfl) (by simp) ?_
            refine AllReadyH.cons (o := { dst := some 38, op := Go.Op.load 2 (Go.Operand.tmp 37), type := 2, pos := "l06_center.go:84", after := #[{ on := 4, ground := Go.Ground.data }], guard := none }) rfl (fun K hK => ?_) AllReadyH.nil
            go_simp
            refine hK.out _ _ hHeld (fun hHeld => ?_)
            clear hK K
            try simp only [Act.put, List.setIfInBounds_toArray, List.set_cons_zero, List.set_cons_succ]
            refine wpAnyH_take (i := 14) (oi := { dst := some 47, op := Go.Op.binOp Go.BinOp.add 2 (Go.Operand.tmp 38) (Go.Operand.tmp 46) 2, type := 2, pos := "l06_center.go:84", after := #[{ on := 5, ground := Go.Ground.data }, { on := 13, ground := Go.Ground.data }], guard := none }) (v := ?v14_14) rfl (by kernel_rfl) (by kernel_rfl) (by kernel_rfl) (fun _ _ _ h => h) (Or.inl ⟨by rfl, ?h14_14⟩) hHeld ?r14_14
            case h14_14 =>
              intro wS hSw
              (try dsimp only at hSw)
              go_simp
              try with_reducible rfl
            case r14_14 =>
            simp only [Act.put, List.setIfInBounds_toArray, List.set_cons_zero, List.set_cons_succ]
            refine wpAnyH_take (i := 15) (oi := { dst := some 48, op := Go.Op.indexAddr 25 (Go.Operand.tmp 33) (Go.Operand.tmp 34), type := 0, pos := "l06_center.go:84", after := #[{ on := 0, ground := Go.Ground.data }, { on := 1, ground := Go.Ground.data }, { on := 0, ground := Go.Ground.phase }, { on := 1, ground := Go.Ground.phase }, { on := 2, ground := Go.Ground.phase }, { on := 3, ground := Go.Ground.phase }, { on := 4, ground := Go.Ground.phase }, { on := 5, ground := Go.Ground.phase }, { on := 6, ground := Go.Ground.phase }, { on := 7, ground := Go.Ground.phase }, { on := 8, ground := Go.Ground.phase }, { on := 9, ground := Go.Ground.phase }, { on := 10, ground := Go.Ground.phase }, { on := 11, ground := Go.Ground.phase }, { on := 12, ground := Go.Ground.phase }, { on := 13, ground := Go.Ground.phase }, { on := 14, ground := Go.Ground.phase }], guard := none }) (v := ?v15_15) rfl (by kernel_rfl) (by kernel_rfl) (by kernel_rfl) (fun _ _ _ h => h) (Or.inl ⟨by rfl, ?h15_15⟩) hHeld ?r15_15
            case h15_15 =>
              intro wS hSw
              (try dsimp only at hSw)
              go_simp
              try with_reducible rfl
            case r15_15 =>
            simp only [Act.put, List.setIfInBounds_toArray, List.set_cons_zero, List.set_cons_succ]
            refine wpAnyH_ready (rs := [16]) (by kernel_rfl) (by simp) ?_
            refine AllReadyH.cons (o := { dst := none, op := Go.Op.store 2 (Go.Operand.tmp 48) (Go.Operand.tmp 47), type := 0, pos := "l06_center.go:84", after := #[{ on := 15, ground := Go.Ground.data }, { on := 14, ground := Go.Ground.data }, { on := 0, ground := Go.Ground.phase }, { on := 1, ground := Go.Ground.phase }, { on := 2, ground := Go.Ground.phase }, { on := 3, ground := Go.Ground.phase }, { on := 4, ground := Go.Ground.phase }, { on := 5, ground := Go.Ground.phase }, { on := 6, ground := Go.Ground.phase }, { on := 7, ground := Go.Ground.phase }, { on := 8, ground := Go.Ground.phase }, { on := 9, ground := Go.Ground.phase }, { on := 10, ground := Go.Ground.phase }, { on := 11, ground := Go.Ground.phase }, { on := 12, ground := Go.Ground.phase }, { on := 13, ground := Go.Ground.phase }, { on := 14, ground := Go.Ground.phase }], guard := none }) rfl (fun K hK => ?_) AllReadyH.nil
            have fz := hSD.soft
            have lg := hSD.lt
            go_simp
            refine hK.out _ _ (hHeld.setCell ⟨w.heap.size, j, none⟩ _ rfl) (fun hHeld => ?_)
            clear hK K
            try simp only [Act.put, List.setIfInBounds_toArray, List.set_cons_zero, List.set_cons_succ]
            refine wpAnyH_done (by kernel_rfl) ?_ _
            refine NoPanic.normal ?_
            have HS9 := hide ((hSD.set j hlj (mj + xj)).same (unhide HMS))
            have HB9 : Hid (Below w.heap.size w (wD.setCell ⟨w.heap.size, j, none⟩ (.int .i64 (mj + xj)))) := hBD.setCell (by simp) _
            clear hHeld hSD hBD c1D czD hsc
            go_wp2_with fail
            go_roundw
            case rel => exact ⟨j + 1, by omega, by go_num, unhide HS9, unhide HB9⟩
            case measure => simp [intOf]; omega
          · obtain rfl : j = 3 := by omega
            have HS9 := hide (hS.sameLt (f' := fun j => sumK cs xs nr j (k + 1)) (fun q hq => (unhide HST2 q).trans (if_pos hq).symm))
            have HB9 := hide hB
            clear hS hB
            go_wp2_with fail
            go_roundw
            case rel => exact ⟨k + 1, by omega, by go_num, by rw [unhide HCT2], unhide HS9, unhide HB9⟩
            case measure => simp [intOf]; omega
      · have hd : (((nr : Nat) : Int) != ((p : Nat) : Int)) = true := by rw [bne_iff_ne]; omega
        have HST2 : Hid (∀ j, sumK cs xs p j (k + 1) = sumK cs xs p j k) := fun j => (unhide HST j).trans (if_neg he)
        have HCT2 : Hid (cntK cs xs p (k + 1) = cntK cs xs p k) := (unhide HCT).trans (if_neg he)
        clear HST HCT
        go_wp2_with fail
        go_roundw
        case rel => exact ⟨k + 1, by omega, by go_num, by rw [unhide HCT2], (unhide HS3).same (fun q => unhide HST2 q), unhide HB3⟩
        case measure => simp [intOf]; omega
    · obtain rfl : k = xs.length := by omega
      have hwr : w.heap.size ≤ wr.heap.size := hB.size
      have hcb := cntK_bd cs xs p xs.length
      by_cases h0 : cntK cs xs p xs.length = 0
      · obtain ⟨row, hc, hr⟩ := Lay.row_at (unhide HC) hp
        obtain ⟨a1, d1, rfl, R1⟩ := open_Center hr
        have c1 : wr.cell? ⟨b0, off0 + p, none⟩ = some (.slice a1 (cs[p]).vec.length d1) := (hB.cell (p := ⟨b0, off0 + p, none⟩) hbl0).trans (cen_cell (hc 0 (by decide)))
        have hvy := unhide HCV cs[p] (List.getElem_mem hp)
        have hM : meanAt cs xs p = (cs[p]).vec := by rw [meanAt, if_pos (show cnt cs xs p = 0 from h0), getD_at hp]
        have HM := hide hM
        clear hc hr hM
        generalize hy : cs[p] = y at *
        clear hy
        have hl3 := (vecFault_zero hvy).1
        have I1 := (Lay.ints_reads R1).later hB
        have hwf : ∀ z ∈ y.vec, (Lit.int .i64 z).wf = true := by
          obtain ⟨_, _, _, hw, -⟩ := Lay.ints_reads R1
          exact hw
        have L := hide (l1Ints _ y.vec wr I1 (by omega))
        have HWF := hide hwf
        have HL3 := hide hl3
        have HB := hide hB
        have i1 : (0 : Int) ≤ (p : Int) := by omega
        have i2 : (p : Int) < (cs.length : Int) := by omega
        rw [h0]
        clear hwf R1 I1 hB hS h0 hcb hl3 hvy
        go_wp2_with fail
        refine (unhide L).mono ?_
        rintro e w9 ⟨v9, rfl, ho9, hb9⟩
        have HO9 := hide ((Lay.ownInts (unhide HWF) (by have := unhide HL3; omega) ho9).mono hwr (Nat.le_refl _))
        have HB9 := hide ((unhide HB).trans (hb9.mono (unhide HB).size))
        clear ho9 hb9 L c1 HB
        go_wp2_with fail
        go_ret
        exact ⟨_, rfl, by rw [unhide HM]; exact unhide HO9, unhide HB9⟩
      · obtain ⟨hmf, hc1, hc2⟩ := sums_right cs (unhide HFT) p h0
        have hM : meanAt cs xs p = meanList (sums cs xs p) (cnt cs xs p) := by rw [meanAt, if_neg (show ¬ cnt cs xs p = 0 from h0)]
        unfold cnt at hM
        have HM := hide hM
        have hwf : ∀ j, j < 3 → (Lit.int .i64 (sumK cs xs p j xs.length)).wf = true := fun j hj => wf_of_bd (by have := sumK_bd cs (unhide HXV) p j hj xs.length (Nat.le_refl _); omega)
        have LM := hide (modelMean _ (sums cs xs p) (cnt cs xs p) wr (isInts_sums hS hwf))
        rw [hmf] at LM
        have hd : (cntK cs xs p xs.length == 0) = false := by rw [beq_eq_false_iff_ne]; exact h0
        have HB := hide hB
        unfold cnt at LM
        clear hM hwf hB hS hmf h0 hcb hc1 hc2
        generalize cntK cs xs p xs.length = cn at *
        generalize sums cs xs p = sm at *
        go_wp2_with fail
        refine (unhide LM).mono ?_
        rintro e wa ⟨ra, rfl, hoa, hba⟩
        have hOa := Lay.ownInts (zs := meanList sm cn) meanList_bd (by have := meanList_len (zs := sm) (n := cn); omega) hoa
        obtain ⟨a9, c9, rfl⟩ := open_sl hOa.reads
        have HO9 := hide (hOa.mono (lo' := w.heap.size) hwr (Nat.le_refl _))
        have HB9 := hide ((unhide HB).trans (hba.mono (unhide HB).size))
        simp only [intsRes]
        clear hOa hoa hba LM HB
        have hfl : ∀ W : World, (Instr.field 37 (.agg #[.int .i64 0, .slice a9 (meanList sm cn).length c9]) 1).run Try.prog W = .ok (.slice a9 (meanList sm cn).length c9) W := fun _ => by kernel_rfl
        go_wp2_with fail
        go_ret
        exact ⟨_, rfl, by rw [unhide HM]; exact unhide HO9, unhide HB9⟩

theorem specMean6 (v : Value) (cs : List DCenter) (vx : Value) (xs : List DItem) (p : Nat) (w : World) (hcs : (Lay.sl Lay.tCenter).Reads w [v] cs) (h : (Lay.sl Lay.tItem).Reads w [vx] xs) (hfc : centersFault cs = 0) (hft : tableFault xs = 0) (hp : p < cs.length) :
    Calls Try.prog 85 #[v, vx, .int .i64 p] w fun e w' => ∃ v', e = .returned v' ∧ (Lay.sl Lay.int).OwnIn w' [v'] (meanAt cs xs p) w.heap.size w'.heap.size ∧ Below w.heap.size w w' := by
  obtain ⟨ao, cap, rfl⟩ := open_sl hcs
  obtain ⟨b, off, rfl, hbl⟩ := Lay.sl_addr hcs (centersFault_zero hfc).1.1
  obtain ⟨ao2, cap2, rfl⟩ := open_sl h
  exact specMean6_pos b off cap cs ao2 cap2 xs p w hcs hbl h hfc hft hp

end Go.Proofs.Ytjofcmdlcoganaa

namespace Go.Proofs.Ytjofcmdlcoganaa
open Go.RowKit

theorem infoAppCenter : (Try.prog.info? 77).map (fun i => (i.zero, i.size, i.bytes)) = some (some (.agg #[.slice none 0 0]), 1, 24) := by kernel_rfl
theorem one_Center {w : World} {row : List Value} {x : DCenter} {bl : List Nat} (h : Lay.tCenter.lies w row x bl) : (∀ u ∈ row, u.oneCell' = true) ∧ row.length = 1 * 1 := by
  obtain ⟨_, _, _, rfl, -⟩ := lies_Center.1 h
  simp [Value.oneCell']

/-- At an operation of a plain region: the new one lies in a block of its own. -/
theorem wpList_append_Center {w1 : World} {base : Nat} {v : Value} {rows : List (List Value)} {xs : List DCenter} {bls : List (List Nat)} (hG : Grow Lay.tCenter w1 base 77 v rows xs bls) {row : List Value} {x : DCenter} {bl : List Nat} (hl : Lay.tCenter.lies w1 row x bl) (hbl : ∀ b ∈ bl, v.ownBlock ≠ some b) {ops : Array Oper} {rest : List Oper} {o : Oper} {a : Act} {Q : Exit → Act → World → Prop} (hgd : o.guard = none) (s y : Operand)
    (ho : o.op = .call { callee := .builtin .append, args := #[s, y], argTypes := #[28, 28] }) (hs : a.eval s = v) (hy : a.eval y = .slice (some ⟨w1.heap.size, 0, none⟩) 1 1) (hn : xs.length + 1 ≤ 100000000) (hbase : base ≤ w1.heap.size)
    (h : ∀ g cap w', Grow Lay.tCenter w' base 77 (.slice (some ⟨g, 0, none⟩) (xs.length + 1) cap) (rows ++ [row]) (xs ++ [x]) (bls ++ [bl]) → Below base w1 w' → Ext (fun q => v.ownBlock = some q) w1 w' → g < w'.heap.size → w1.heap.size ≤ w'.heap.size → (v.ownBlock = some g ∨ w1.heap.size ≤ g) → wpList Try.prog ops Q rest (a.put o.dst (.slice (some ⟨g, 0, none⟩) (xs.length + 1) cap)) w') :
    wpList Try.prog ops Q (o :: rest) a (w1.alloc (.cells row.toArray 77)) := by
  obtain ⟨i0, hi0, hz0, hz1, hz2⟩ := info_parts infoAppCenter
  obtain ⟨h1, hlen⟩ := one_Center hl
  refine wpList_append_lies _ hgd s y 28 ho base 77 i0 _ 1 24 Try.underlying28 hi0 hz0 hz1 hz2 rfl (by omega) v xs.length rows.flatten hs (hG.own.alloc _) ⟨w1.heap.size, 0, none⟩ 1 1 row hy hlen (World.news_of_block (cs := row.toArray) (t := 77) (fr := (0, 0)) (heap_alloc_new w1 _)) h1 (by omega) (by unfold maxLen; omega) (by omega) (by simp; omega) (w1.alloc (.cells row.toArray 77)).heap.size rfl ?_
  intro g cap w' h2 h3 h4 h5
  have hg := grown_alloc h3
  have hbw : Below base w1 w' := (Below.refl _ _).grown hg hbase (fun j hj => (hG.own.lt j hj).1)
  have hor : v.ownBlock = some g ∨ w1.heap.size ≤ g := by
    rcases h4 with h4 | h4
    · exact Or.inl h4
    · exact Or.inr (by rw [h4]; simp)
  exact h g cap w' (hG.snoc hl hbl h2 hg hor) hbw ⟨hbw.os, hbw.tape, hbw.output, hbw.size, fun k hk hn => hg.block k hk (fun e => hn e.symm)⟩ h5 hbw.size hor

/-- At a step of a region that draws its order. -/
theorem step_append_Center {w1 : World} {base : Nat} {v : Value} {rows : List (List Value)} {xs : List DCenter} {bls : List (List Nat)} (hG : Grow Lay.tCenter w1 base 77 v rows xs bls) {row : List Value} {x : DCenter} {bl : List Nat} (hl : Lay.tCenter.lies w1 row x bl) (hbl : ∀ b ∈ bl, v.ownBlock ≠ some b) {ops : Array Oper} {o : Oper} {a : Act} {K : Act → World → Prop} {Q : Exit → Act → World → Prop} {E : Prop} (hgd : o.guard = none) (s y : Operand)
    (ho : o.op = .call { callee := .builtin .append, args := #[s, y], argTypes := #[28, 28] }) (hs : a.eval s = v) (hy : a.eval y = .slice (some ⟨w1.heap.size, 0, none⟩) 1 1) (hn : xs.length + 1 ≤ 100000000) (hbase : base ≤ w1.heap.size)
    (h : ∀ g cap w', Grow Lay.tCenter w' base 77 (.slice (some ⟨g, 0, none⟩) (xs.length + 1) cap) (rows ++ [row]) (xs ++ [x]) (bls ++ [bl]) → Below base w1 w' → Ext (fun q => v.ownBlock = some q) w1 w' → g < w'.heap.size → w1.heap.size ≤ w'.heap.size → (v.ownBlock = some g ∨ w1.heap.size ≤ g) → K (a.put o.dst (.slice (some ⟨g, 0, none⟩) (xs.length + 1) cap)) w') :
    if Region.wanted o (yielded ops a.tmps) = true then Oper.wp Try.prog o a (w1.alloc (.cells row.toArray 77)) K Q else E := by
  obtain ⟨i0, hi0, hz0, hz1, hz2⟩ := info_parts infoAppCenter
  obtain ⟨h1, hlen⟩ := one_Center hl
  refine step_append_lies _ hgd s y 28 ho base 77 i0 _ 1 24 Try.underlying28 hi0 hz0 hz1 hz2 rfl (by omega) v xs.length rows.flatten hs (hG.own.alloc _) ⟨w1.heap.size, 0, none⟩ 1 1 row hy hlen (World.news_of_block (cs := row.toArray) (t := 77) (fr := (0, 0)) (heap_alloc_new w1 _)) h1 (by omega) (by unfold maxLen; omega) (by omega) (by simp; omega) (w1.alloc (.cells row.toArray 77)).heap.size rfl ?_
  intro g cap w' h2 h3 h4 h5
  have hg := grown_alloc h3
  have hbw : Below base w1 w' := (Below.refl _ _).grown hg hbase (fun j hj => (hG.own.lt j hj).1)
  have hor : v.ownBlock = some g ∨ w1.heap.size ≤ g := by
    rcases h4 with h4 | h4
    · exact Or.inl h4
    · exact Or.inr (by rw [h4]; simp)
  exact h g cap w' (hG.snoc hl hbl h2 hg hor) hbw ⟨hbw.os, hbw.tape, hbw.output, hbw.size, fun k hk hn => hg.block k hk (fun e => hn e.symm)⟩ h5 hbw.size hor

end Go.Proofs.Ytjofcmdlcoganaa

namespace Go.Proofs.Ytjofcmdlcoganaa
open Go.RowKit

set_option maxRecDepth 100000 in
set_option maxHeartbeats 2000000 in
theorem specMove (v : Value) (cs : List DCenter) (vx : Value) (xs : List DItem) (w : World) (hcs : (Lay.sl Lay.tCenter).Reads w [v] cs) (h : (Lay.sl Lay.tItem).Reads w [vx] xs) (hfc : centersFault cs = 0) (hft : tableFault xs = 0) :
    Calls Try.prog 53 #[v, vx] w fun e w' => ∃ v', e = .returned v' ∧ (Lay.sl Lay.tCenter).LiesIn w' [v'] (moved cs xs) w.heap.size w'.heap.size ∧ Below w.heap.size w w' := by
  obtain ⟨ao, cap, rfl⟩ := open_sl hcs
  obtain ⟨ao2, cap2, rfl⟩ := open_sl h
  have hn6 := (centersFault_zero hfc).1.2
  have nb : Below w.heap.size w (w.alloc (.cells #[] 77)) := (Below.refl _ _).alloc (Nat.le_refl _) _
  have O : (w.alloc (.cells #[] 77)).ownsRow w.heap.size 77 1 (.slice (some ⟨w.heap.size, 0, none⟩) 0 0) 0 [] := World.ownsRow_lit w _ 0 (Nat.le_refl _) (by unfold maxLen; omega) rfl
  have HG0 := hide (Grow.nil (A := Lay.tCenter) O)
  have HB0 := hide nb
  have HC := hide hcs
  have HX := hide h
  have HFC := hide hfc
  have HFT := hide hft
  clear hcs h hfc hft nb O
  go_enter Try.func53, Try.ntmps53
  go_wp2_with fail
  go_loopw [5, 6] (fun u i wr => ∃ (k : Nat) (rows : List (List Value)) (bls : List (List Nat)), k ≤ cs.length ∧ i = .int .i64 k ∧ Grow Lay.tCenter wr w.heap.size 77 u rows ((moved cs xs).take k) bls ∧ (∀ b ∈ bls.flatten, w.heap.size ≤ b) ∧ Below w.heap.size w wr) (fun _ i _ => cs.length - (intOf i).toNat)
  case atStart => exact ⟨0, [], [], Nat.zero_le _, rfl, unhide HG0, by simp, unhide HB0⟩
  case round =>
    obtain ⟨k, rows, bls, hk, rfl, hG, hin, hB⟩ := hrel
    clear HG0 HB0
    by_cases hlt : k < cs.length
    · have HT := hide (moved_take cs xs k hlt)
      have HL : Hid (((moved cs xs).take k).length = k) := by show ((moved cs xs).take k).length = k; rw [List.length_take, moved_len]; omega
      have L := hide (specMean6 _ cs _ xs k wr ((unhide HC).later hB) ((unhide HX).later hB) (unhide HFC) (unhide HFT) hlt)
      have HG := hide hG
      have HB := hide hB
      clear hG hB
      go_wp2_with fail
      refine (unhide L).mono ?_
      rintro e w1 ⟨v1, rfl, O1, hb⟩
      have hG1 := (unhide HG).later hb
      have hB1 := (unhide HB).trans (hb.mono (unhide HB).size)
      have hsz := hb.size
      obtain ⟨bl, ⟨hl1, -, -⟩, hi1⟩ := O1
      have hlies : Lay.tCenter.lies w1 [v1] ⟨meanAt cs xs k⟩ bl := hl1
      have hoff : ∀ b ∈ bl, u5.ownBlock ≠ some b := fun b hb2 e => by have h1 := ((unhide HG).own.lt b e).2; have h2 := (hi1 b hb2).1; omega
      obtain ⟨a9, c9, rfl⟩ := open_sl ⟨bl, hl1⟩
      have HIN : Hid (∀ b ∈ (bls ++ [bl]).flatten, w.heap.size ≤ b) := by
        show ∀ b ∈ (bls ++ [bl]).flatten, w.heap.size ≤ b
        intro b hm
        rw [List.flatten_append] at hm
        rcases List.mem_append.1 hm with hm | hm
        · exact hin b hm
        · have := (hi1 b (by simpa using hm)).1; have := (unhide HB).size; omega
      have HB1 := hide hB1
      have hlen := unhide HL
      have hbs := hB1.size
      clear hl1 hi1 hb hB1 L HG HB
      generalize hm : (meanAt cs xs k).length = ml at *
      clear hm
      go_wp2_with (at_builtin; refine wpList_append_Center hG1 hlies hoff rfl _ _ rfl rfl rfl (by omega) (by omega) ?_)
      rintro g5 cp5 w5 hG5 hb5 - hl5 hz5 -
      have HG5 := hide hG5
      have HB5 := hide ((unhide HB1).trans hb5)
      clear hG5 hb5 hG1 hlies hoff HB1 hlen
      go_wp2_with fail
      go_roundw
      case rel => exact ⟨k + 1, _, _, by omega, by go_num, by rw [unhide HT]; exact unhide HG5, unhide HIN, unhide HB5⟩
      case measure => simp [intOf]; omega
    · obtain rfl : k = cs.length := by omega
      rw [show (moved cs xs).take cs.length = moved cs xs by rw [← moved_len cs xs, List.take_length]] at hG
      have HR := hide (hG.toLies (by rw [moved_len]; omega) hin)
      have HB := hide hB
      clear hG hB
      go_wp2_with fail
      go_ret
      exact ⟨_, rfl, unhide HR, unhide HB⟩

end Go.Proofs.Ytjofcmdlcoganaa

namespace Go.Proofs.Ytjofcmdlcoganaa
open Go.RowKit

set_option maxRecDepth 100000 in
set_option maxHeartbeats 2000000 in
theorem specCost_pos (b2 off2 cap2 : Nat) (cs : List DCenter) (b off cap : Nat) (xs : List DItem) (w : World) (hcs : (Lay.sl Lay.tCenter).Reads w [.slice (some ⟨b2, off2, none⟩) cs.length cap2] cs) (hbl2 : b2 < w.heap.size) (h : (Lay.sl Lay.tItem).Reads w [.slice (some ⟨b, off, none⟩) xs.length cap] xs) (hbl : b < w.heap.size) (hc0 : centersFault cs = 0) (ht : tableFault xs = 0) :
    Calls Try.prog 54 #[.slice (some ⟨b2, off2, none⟩) cs.length cap2, .slice (some ⟨b, off, none⟩) xs.length cap] w fun e w' => e = .returned (.int .i64 (cost cs xs)) ∧ Below w.heap.size w w' := by
  obtain ⟨hlen, hall, -⟩ := tableFault_zero ht
  have hxv : ∀ x ∈ xs, vecFault x.vec = 0 := fun x hm => (hall x hm).2
  have HXV := hide hxv
  have HC := hide hcs
  have HCF := hide hc0
  have H := hide h
  clear h hcs hall hc0 hxv ht
  go_enter Try.func54, Try.ntmps54
  go_wp2_with fail
  go_loopw [5, 6] (fun a i wr => ∃ k : Nat, k ≤ xs.length ∧ i = .int .i64 k ∧ a = .int .i64 (costK cs xs k) ∧ Below w.heap.size w wr) (fun _ i _ => xs.length - (intOf i).toNat)
  case atStart => exact ⟨0, Nat.zero_le _, rfl, rfl, Below.refl _ _⟩
  case round =>
    obtain ⟨k, hk, rfl, rfl, hB⟩ := hrel
    by_cases hlt : k < xs.length
    · obtain ⟨row, hc, hr⟩ := Lay.row_at (unhide H) hlt
      obtain ⟨a1, d1, rfl, R1⟩ := open_Item hr
      have c0 : w.cell? ⟨b, off + k * 2, none⟩ = some (.int .i64 (xs[k]).id) := hc 0 (by decide)
      have c1 : w.cell? ⟨b, off + k * 2 + 1, none⟩ = some (.slice a1 (xs[k]).vec.length d1) := hc 1 (by decide)
      have hvx := unhide HXV xs[k] (List.getElem_mem hlt)
      have hb1 := costK_bd (unhide HCF) (unhide HXV) k hk
      have hstep := costK_step cs xs k hlt
      clear hc hr
      generalize hx : xs[k] = x at *
      clear hx
      have hml := near_lt (unhide HCF) hvx
      obtain ⟨hse, hs1, hs2⟩ := nearS_eq (unhide HCF) hvx hml
      obtain ⟨row2, hc2, hr2⟩ := Lay.row_at (unhide HC) hml
      obtain ⟨a3, d3, rfl, R2⟩ := open_Center hr2
      have c2 : w.cell? ⟨b2, off2 + near cs x.vec, none⟩ = some (.slice a3 (cs[near cs x.vec]).vec.length d3) := cen_cell (hc2 0 (by decide))
      have hvy := (centersFault_zero (unhide HCF)).2 cs[near cs x.vec] (List.getElem_mem hml)
      clear hc2 hr2
      generalize hy : cs[near cs x.vec] = y at *
      clear hy
      rw [hse] at hs1 hs2 hstep
      have HST := hide hstep
      have I1 := hide (Lay.ints_reads R1)
      have I2 := hide (Lay.ints_reads R2)
      have HX := hide hvx
      have HY := hide hvy
      have HB := hide hB
      clear R1 R2 hB hvx hvy hse hstep
      have LN : Hid (∀ W, Below w.heap.size w W → Calls Try.prog 65 #[.slice (some ⟨b2, off2, none⟩) cs.length cap2, .slice a1 x.vec.length d1] W fun e w' => e = .returned (.int .i64 (near cs x.vec : Nat)) ∧ Below W.heap.size W w') := fun W hW => specNear _ cs _ x.vec W ((unhide HC).later hW) ((unhide I1).later hW) (unhide HCF) (unhide HX)
      generalize hm : near cs x.vec = m at *
      clear hm
      generalize costK cs xs k = ck at *
      have ew : IntKind.i64.wrap (ck + score3 y.vec x.vec) = ck + score3 y.vec x.vec := by simp only [IntKind.wrap_i64]; omega
      have i1 : (0 : Int) ≤ (k : Int) := by omega
      have i2 : (k : Int) < (xs.length : Int) := by omega
      have i3 : (0 : Int) ≤ (m : Int) := by omega
      have i4 : (m : Int) < (cs.length : Int) := by omega
      go_wp2_with fail
      refine wp_region_noPanic ?_
      refine wp_region_held_drew (S := fun w' => Below w.heap.size w w') (by kernel_rfl) (unhide HB).drew (fun hHeld => ?_)
      generalize wr.drew = wD at hHeld ⊢
      refine wpAnyH_take (i := 0) (oi := { dst := some 13, op := Go.Op.move (Go.Operand.tmp 5), type := 2, pos := "l06_center.go:62", after := #[], guard := none }) (v := ?v0) rfl (by kernel_rfl) (by kernel_rfl) (by kernel_rfl) (fun _ _ _ h => h) (Or.inl ⟨by rfl, ?h0⟩) hHeld ?r0
      case h0 =>
        intro wS hSw
        (try dsimp only at hSw)
        go_simp
        try with_reducible rfl
      case r0 =>
      simp only [Act.put, List.setIfInBounds_toArray, List.set_cons_zero, List.set_cons_succ]
      refine wpAnyH_take (i := 1) (oi := { dst := some 14, op := Go.Op.move (Go.Operand.tmp 0), type := 28, pos := "l06_center.go:62", after := #[], guard := none }) (v := ?v1) rfl (by kernel_rfl) (by kernel_rfl) (by kernel_rfl) (fun _ _ _ h => h) (Or.inl ⟨by rfl, ?h1⟩) hHeld ?r1
      case h1 =>
        intro wS hSw
        (try dsimp only at hSw)
        go_simp
        try with_reducible rfl
      case r1 =>
      simp only [Act.put, List.setIfInBounds_toArray, List.set_cons_zero, List.set_cons_succ]
      refine wpAnyH_take (i := 2) (oi := { dst := some 15, op := Go.Op.move (Go.Operand.tmp 0), type := 28, pos := "l06_center.go:62", after := #[], guard := none }) (v := ?v2) rfl (by kernel_rfl) (by kernel_rfl) (by kernel_rfl) (fun _ _ _ h => h) (Or.inl ⟨by rfl, ?h2⟩) hHeld ?r2
      case h2 =>
        intro wS hSw
        (try dsimp only at hSw)
        go_simp
        try with_reducible rfl
      case r2 =>
      simp only [Act.put, List.setIfInBounds_toArray, List.set_cons_zero, List.set_cons_succ]
      refine wpAnyH_take (i := 3) (oi := { dst := some 16, op := Go.Op.move (Go.Operand.tmp 1), type := 24, pos := "l06_center.go:62", after := #[], guard := none }) (v := ?v3) rfl (by kernel_rfl) (by kernel_rfl) (by kernel_rfl) (fun _ _ _ h => h) (Or.inl ⟨by rfl, ?h3⟩) hHeld ?r3
      case h3 =>
        intro wS hSw
        (try dsimp only at hSw)
        go_simp
        try with_reducible rfl
      case r3 =>
      simp only [Act.put, List.setIfInBounds_toArray, List.set_cons_zero, List.set_cons_succ]
      refine wpAnyH_take (i := 4) (oi := { dst := some 17, op := Go.Op.move (Go.Operand.tmp 6), type := 3, pos := "l06_center.go:62", after := #[], guard := none }) (v := ?v4) rfl (by kernel_rfl) (by kernel_rfl) (by kernel_rfl) (fun _ _ _ h => h) (Or.inl ⟨by rfl, ?h4⟩) hHeld ?r4
      case h4 =>
        intro wS hSw
        (try dsimp only at hSw)
        go_simp
        try with_reducible rfl
      case r4 =>
      simp only [Act.put, List.setIfInBounds_toArray, List.set_cons_zero, List.set_cons_succ]
      refine wpAnyH_take (i := 5) (oi := { dst := some 18, op := Go.Op.indexAddr 24 (Go.Operand.tmp 16) (Go.Operand.tmp 17), type := 0, pos := "l06_center.go:62", after := #[{ on := 3, ground := Go.Ground.data }, { on := 4, ground := Go.Ground.data }], guard := none }) (v := ?v5) rfl (by kernel_rfl) (by kernel_rfl) (by kernel_rfl) (fun _ _ _ h => h) (Or.inl ⟨by rfl, ?h5⟩) hHeld ?r5
      case h5 =>
        intro wS hSw
        (try dsimp only at hSw)
        go_simp
        try with_reducible rfl
      case r5 =>
      simp only [Act.put, List.setIfInBounds_toArray, List.set_cons_zero, List.set_cons_succ]
      refine wpAnyH_take (i := 6) (oi := { dst := some 19, op := Go.Op.fieldAddr 41 (Go.Operand.tmp 18) 1, type := 0, pos := "l06_center.go:62", after := #[{ on := 5, ground := Go.Ground.data }], guard := none }) (v := ?v6) rfl (by kernel_rfl) (by kernel_rfl) (by kernel_rfl) (fun _ _ _ h => h) (Or.inl ⟨by rfl, ?h6⟩) hHeld ?r6
      case h6 =>
        intro wS hSw
        (try dsimp only at hSw)
        go_simp
        try with_reducible rfl
      case r6 =>
      simp only [Act.put, List.setIfInBounds_toArray, List.set_cons_zero, List.set_cons_succ]
      refine wpAnyH_take (i := 7) (oi := { dst := some 20, op := Go.Op.load 25 (Go.Operand.tmp 19), type := 25, pos := "l06_center.go:62", after := #[{ on := 6, ground := Go.Ground.data }], guard := none }) (v := ?v7) rfl (by kernel_rfl) (by kernel_rfl) (by kernel_rfl) (fun _ _ _ h => h) (Or.inl ⟨by rfl, ?h7⟩) hHeld ?r7
      case h7 =>
        intro wS hSw
        have y0 := (hSw.cell (p := ⟨b, off + k * 2, none⟩) hbl).trans c0
        have y1 := (hSw.cell (p := ⟨b, off + k * 2 + 1, none⟩) hbl).trans c1
        clear hSw
        (try dsimp only at hSw)
        go_simp
        try with_reducible rfl
      case r7 =>
      simp only [Act.put, List.setIfInBounds_toArray, List.set_cons_zero, List.set_cons_succ]
      refine wpAnyH_take (i := 12) (oi := { dst := some 25, op := Go.Op.move (Go.Operand.tmp 1), type := 24, pos := "l06_center.go:62", after := #[], guard := none }) (v := ?v12) rfl (by kernel_rfl) (by kernel_rfl) (by kernel_rfl) (fun _ _ _ h => h) (Or.inl ⟨by rfl, ?h12⟩) hHeld ?r12
      case h12 =>
        intro wS hSw
        (try dsimp only at hSw)
        go_simp
        try with_reducible rfl
      case r12 =>
      simp only [Act.put, List.setIfInBounds_toArray, List.set_cons_zero, List.set_cons_succ]
      refine wpAnyH_take (i := 13) (oi := { dst := some 26, op := Go.Op.move (Go.Operand.tmp 6), type := 3, pos := "l06_center.go:62", after := #[], guard := none }) (v := ?v13) rfl (by kernel_rfl) (by kernel_rfl) (by kernel_rfl) (fun _ _ _ h => h) (Or.inl ⟨by rfl, ?h13⟩) hHeld ?r13
      case h13 =>
        intro wS hSw
        (try dsimp only at hSw)
        go_simp
        try with_reducible rfl
      case r13 =>
      simp only [Act.put, List.setIfInBounds_toArray, List.set_cons_zero, List.set_cons_succ]
      refine wpAnyH_take (i := 14) (oi := { dst := some 27, op := Go.Op.indexAddr 24 (Go.Operand.tmp 25) (Go.Operand.tmp 26), type := 0, pos := "l06_center.go:62", after := #[{ on := 12, ground := Go.Ground.data }, { on := 13, ground := Go.Ground.data }], guard := none }) (v := ?v14) rfl (by kernel_rfl) (by kernel_rfl) (by kernel_rfl) (fun _ _ _ h => h) (Or.inl ⟨by rfl, ?h14⟩) hHeld ?r14
      case h14 =>
        intro wS hSw
        (try dsimp only at hSw)
        go_simp
        try with_reducible rfl
      case r14 =>
      simp only [Act.put, List.setIfInBounds_toArray, List.set_cons_zero, List.set_cons_succ]
      refine wpAnyH_take (i := 15) (oi := { dst := some 28, op := Go.Op.fieldAddr 41 (Go.Operand.tmp 27) 1, type := 0, pos := "l06_center.go:62", after := #[{ on := 14, ground := Go.Ground.data }], guard := none }) (v := ?v15) rfl (by kernel_rfl) (by kernel_rfl) (by kernel_rfl) (fun _ _ _ h => h) (Or.inl ⟨by rfl, ?h15⟩) hHeld ?r15
      case h15 =>
        intro wS hSw
        (try dsimp only at hSw)
        go_simp
        try with_reducible rfl
      case r15 =>
      simp only [Act.put, List.setIfInBounds_toArray, List.set_cons_zero, List.set_cons_succ]
      refine wpAnyH_take (i := 16) (oi := { dst := some 29, op := Go.Op.load 25 (Go.Operand.tmp 28), type := 25, pos := "l06_center.go:62", after := #[{ on := 15, ground := Go.Ground.data }], guard := none }) (v := ?v16) rfl (by kernel_rfl) (by kernel_rfl) (by kernel_rfl) (fun _ _ _ h => h) (Or.inl ⟨by rfl, ?h16⟩) hHeld ?r16
      case h16 =>
        intro wS hSw
        have y0 := (hSw.cell (p := ⟨b, off + k * 2, none⟩) hbl).trans c0
        have y1 := (hSw.cell (p := ⟨b, off + k * 2 + 1, none⟩) hbl).trans c1
        clear hSw
        (try dsimp only at hSw)
        go_simp
        try with_reducible rfl
      case r16 =>
      simp only [Act.put, List.setIfInBounds_toArray, List.set_cons_zero, List.set_cons_succ]
      refine wpAnyH_ready (rs := [8]) (by kernel_rfl) (by simp) ?_
      refine AllReadyH.cons (o := { dst := some 21, op := Go.Op.call { callee := Go.Callee.value (Go.Operand.func 65), args := #[Go.Operand.tmp 15, Go.Operand.tmp 20], argTypes := #[28, 25] }, type := 2, pos := "l06_center.go:62", after := #[{ on := 2, ground := Go.Ground.data }, { on := 7, ground := Go.Ground.data }], guard := none }) rfl (fun K hK => ?_) AllReadyH.nil
      go_simp
      go_at_call 65
      refine (unhide LN _ hHeld).mono ?_
      rintro e w3 ⟨rfl, hbw⟩
      try go_wp2_with fail
      refine hK.out _ _ (hHeld.trans (hbw.mono hHeld.size)) (fun hHeld => ?_)
      clear hK K
      try simp only [Act.put, List.setIfInBounds_toArray, List.set_cons_zero, List.set_cons_succ]
      refine wpAnyH_take (i := 9) (oi := { dst := some 22, op := Go.Op.indexAddr 28 (Go.Operand.tmp 14) (Go.Operand.tmp 21), type := 0, pos := "l06_center.go:62", after := #[{ on := 1, ground := Go.Ground.data }, { on := 8, ground := Go.Ground.data }], guard := none }) (v := ?v9) rfl (by kernel_rfl) (by kernel_rfl) (by kernel_rfl) (fun _ _ _ h => h) (Or.inl ⟨by rfl, ?h9⟩) hHeld ?r9
      case h9 =>
        intro wS hSw
        (try dsimp only at hSw)
        go_simp
        try with_reducible rfl
      case r9 =>
      simp only [Act.put, List.setIfInBounds_toArray, List.set_cons_zero, List.set_cons_succ]
      refine wpAnyH_take (i := 10) (oi := { dst := some 23, op := Go.Op.fieldAddr 77 (Go.Operand.tmp 22) 0, type := 0, pos := "l06_center.go:62", after := #[{ on := 9, ground := Go.Ground.data }], guard := none }) (v := ?v10) rfl (by kernel_rfl) (by kernel_rfl) (by kernel_rfl) (fun _ _ _ h => h) (Or.inl ⟨by rfl, ?h10⟩) hHeld ?r10
      case h10 =>
        intro wS hSw
        (try dsimp only at hSw)
        go_simp
        try with_reducible rfl
      case r10 =>
      simp only [Act.put, List.setIfInBounds_toArray, List.set_cons_zero, List.set_cons_succ]
      refine wpAnyH_take (i := 11) (oi := { dst := some 24, op := Go.Op.load 25 (Go.Operand.tmp 23), type := 25, pos := "l06_center.go:62", after := #[{ on := 10, ground := Go.Ground.data }], guard := none }) (v := ?v11) rfl (by kernel_rfl) (by kernel_rfl) (by kernel_rfl) (fun _ _ _ h => h) (Or.inl ⟨by rfl, ?h11⟩) hHeld ?r11
      case h11 =>
        intro wS hSw
        have y1 := (hSw.cell (p := ⟨b2, off2 + m, none⟩) hbl2).trans c2
        clear hSw
        (try dsimp only at hSw)
        go_simp
        try with_reducible rfl
      case r11 =>
      simp only [Act.put, List.setIfInBounds_toArray, List.set_cons_zero, List.set_cons_succ]
      refine wpAnyH_ready (rs := [17]) (by kernel_rfl) (by simp) ?_
      refine AllReadyH.cons (o := { dst := some 30, op := Go.Op.call { callee := Go.Callee.value (Go.Operand.func 86), args := #[Go.Operand.tmp 24, Go.Operand.tmp 29], argTypes := #[25, 25] }, type := 2, pos := "l06_center.go:62", after := #[{ on := 11, ground := Go.Ground.data }, { on := 16, ground := Go.Ground.data }, { on := 8, ground := Go.Ground.chain }], guard := none }) rfl (fun K hK => ?_) AllReadyH.nil
      go_simp
      go_at_call 86
      refine (modelScore3 _ _ y.vec x.vec _ ((unhide I2).later hHeld) ((unhide I1).later hHeld) (unhide HY) (unhide HX)).mono ?_
      rintro e w3 ⟨rfl, hbw⟩
      try go_wp2_with fail
      refine hK.out _ _ (hHeld.trans (hbw.mono hHeld.size)) (fun hHeld => ?_)
      clear hK K
      try simp only [Act.put, List.setIfInBounds_toArray, List.set_cons_zero, List.set_cons_succ]
      refine wpAnyH_take (i := 18) (oi := { dst := some 31, op := Go.Op.binOp Go.BinOp.add 2 (Go.Operand.tmp 13) (Go.Operand.tmp 30) 2, type := 2, pos := "l06_center.go:62", after := #[{ on := 0, ground := Go.Ground.data }, { on := 17, ground := Go.Ground.data }], guard := none }) (v := ?v18) rfl (by kernel_rfl) (by kernel_rfl) (by kernel_rfl) (fun _ _ _ h => h) (Or.inl ⟨by rfl, ?h18⟩) hHeld ?r18
      case h18 =>
        intro wS hSw
        (try dsimp only at hSw)
        go_simp
        try with_reducible rfl
      case r18 =>
      simp only [Act.put, List.setIfInBounds_toArray, List.set_cons_zero, List.set_cons_succ]
      refine wpAnyH_take (i := 19) (oi := { dst := some 5, op := Go.Op.assign (Go.Operand.tmp 31), type := 2, pos := "l06_center.go:62", after := #[{ on := 18, ground := Go.Ground.data }, { on := 17, ground := Go.Ground.chain }, { on := 0, ground := Go.Ground.phase }, { on := 1, ground := Go.Ground.phase }, { on := 2, ground := Go.Ground.phase }, { on := 3, ground := Go.Ground.phase }, { on := 4, ground := Go.Ground.phase }, { on := 5, ground := Go.Ground.phase }, { on := 6, ground := Go.Ground.phase }, { on := 7, ground := Go.Ground.phase }, { on := 8, ground := Go.Ground.phase }, { on := 9, ground := Go.Ground.phase }, { on := 10, ground := Go.Ground.phase }, { on := 11, ground := Go.Ground.phase }, { on := 12, ground := Go.Ground.phase }, { on := 13, ground := Go.Ground.phase }, { on := 14, ground := Go.Ground.phase }, { on := 15, ground := Go.Ground.phase }, { on := 16, ground := Go.Ground.phase }, { on := 17, ground := Go.Ground.phase }, { on := 18, ground := Go.Ground.phase }], guard := none }) (v := ?v19) rfl (by kernel_rfl) (by kernel_rfl) (by kernel_rfl) (fun _ _ _ h => h) (Or.inl ⟨by rfl, ?h19⟩) hHeld ?r19
      case h19 =>
        intro wS hSw
        (try dsimp only at hSw)
        go_simp
        try with_reducible rfl
      case r19 =>
      simp only [Act.put, List.setIfInBounds_toArray, List.set_cons_zero, List.set_cons_succ]
      refine wpAnyH_done (by kernel_rfl) ?_ _
      refine NoPanic.normal ?_
      have HB3 := hide hHeld
      clear hHeld c0 c1 c2 HB I1 I2
      go_wp2_with fail
      go_roundw
      case rel => exact ⟨k + 1, by omega, by go_num, by rw [unhide HST], unhide HB3⟩
      case measure => simp [intOf]; omega
    · obtain rfl : k = xs.length := by omega
      have HB := hide hB
      clear hB H
      go_wp2_with fail
      go_ret
      exact ⟨rfl, unhide HB⟩

theorem specCost_zero (v : Value) (ao : Option Addr) (cap : Nat) (w : World) :
    Calls Try.prog 54 #[v, .slice ao 0 cap] w fun e w' => e = .returned (.int .i64 0) ∧ Below w.heap.size w w' := by
  go_enter Try.func54, Try.ntmps54
  go_wp2_with fail
  refine wp_loop_rounds 1 ?_
  rw [rounds_succ]
  go_wp2_with fail
  go_ret
  exact ⟨rfl, Below.refl _ _⟩

/-- l6Cost of the model. -/
theorem specCost (v : Value) (cs : List DCenter) (vx : Value) (xs : List DItem) (w : World) (hcs : (Lay.sl Lay.tCenter).Reads w [v] cs) (h : (Lay.sl Lay.tItem).Reads w [vx] xs) (hc0 : centersFault cs = 0) (ht : tableFault xs = 0) :
    Calls Try.prog 54 #[v, vx] w fun e w' => e = .returned (.int .i64 (cost cs xs)) ∧ Below w.heap.size w w' := by
  obtain ⟨ao2, cap2, rfl⟩ := open_sl hcs
  obtain ⟨b2, off2, rfl, hbl2⟩ := Lay.sl_addr hcs (centersFault_zero hc0).1.1
  obtain ⟨ao, cap, rfl⟩ := open_sl h
  by_cases hp : 0 < xs.length
  · obtain ⟨b, off, rfl, hbl⟩ := Lay.sl_addr h hp
    exact specCost_pos b2 off2 cap2 cs b off cap xs w hcs hbl2 h hbl hc0 ht
  · obtain rfl : xs = [] := List.eq_nil_of_length_eq_zero (by omega)
    exact specCost_zero _ ao cap w

end Go.Proofs.Ytjofcmdlcoganaa
