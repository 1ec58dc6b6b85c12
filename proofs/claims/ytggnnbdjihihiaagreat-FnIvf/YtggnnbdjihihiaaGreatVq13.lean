/-
  The law FnIvf answers true at every slice of bytes, and writes nothing that was there.
  No condition.
-/
import Derived.Test.YtggnnbdjihihiaaGreatVq06
import Derived.Test.YtggnnbdjihihiaaGreatVq07
import Derived.Test.YtggnnbdjihihiaaGreatVq11
import Derived.Test.YtggnnbdjihihiaaGreatVq12
import Derived.Test.YtggnnbdjihihiaaGreatVq02
import Derived.Deep.RegionHeld3

namespace Go.Proofs.YtggnnbdjihihiaaGreat
open Go.RowKit

theorem fieldHI0 (c : Int) (a : Option Addr) (n cp : Nat) (w : World) : (Instr.field 33 (.agg #[.int .i64 c, .slice a n cp]) 0).run Tryz.prog w = .ok (.int .i64 c) w := by kernel_rfl
theorem fieldHI1 (c : Int) (a : Option Addr) (n cp : Nat) (w : World) : (Instr.field 33 (.agg #[.int .i64 c, .slice a n cp]) 1).run Tryz.prog w = .ok (.slice a n cp) w := by kernel_rfl
theorem fieldII1 (c n : Int) (w : World) : (Instr.field 46 (.agg #[.int .i64 c, .int .i64 n]) 1).run Tryz.prog w = .ok (.int .i64 n) w := by kernel_rfl
theorem scoreI (v1 v2 : Value) (q v : List Int) (w : World) (h1 : IsInts w v1 q) (h2 : IsInts w v2 v) (f1 : vecFault q = 0) (f2 : vecFault v = 0) :
    Calls Tryz.prog 14 #[v1, v2] w fun e w' => e = .returned (.agg #[.int .i64 0, .int .i64 (score3 q v)]) ∧ Below w.heap.size w w' := by
  obtain ⟨x, y, z, rfl⟩ := vec3q f1
  obtain ⟨a, b, c, rfl⟩ := vec3q f2
  exact implScore_ok v1 v2 x y z a b c w h1 h2 f1 f2
theorem lies_list {w : World} {cs : List Value} {c : Int} {v : List Int} {lo hi : Nat} (h : Lay.tIntsResult.LiesIn w cs ⟨c, v⟩ lo hi) : ∃ (a : Option Addr) (d : Nat), cs = [.int .i64 c, .slice a v.length d] ∧ (Lay.sl Lay.int).LiesIn w [.slice a v.length d] v lo hi := by
  obtain ⟨bl, hl, hb⟩ := h
  obtain ⟨a1, d1, b1, rfl, rfl, w0, l1⟩ := lies_IntsResult.1 hl
  exact ⟨a1, d1, rfl, _, l1, hb⟩

theorem lawIvf_many (ao : Option Addr) (len cap : Nat) (w : World) (hn : 1048576 < len) :
    Calls Tryz.prog 3 #[.slice ao len cap] w fun e w' => e = .returned (.bool true) ∧ Below w.heap.size w w' := by
  go_enter Tryz.func3, Tryz.ntmps3
  go_wp2_with fail
  refine (big_yes ao len cap w hn).mono ?_
  rintro e w' ⟨rfl, rfl⟩
  go_wp2_with fail
  go_ret
  exact ⟨rfl, Below.refl _ _⟩

set_option maxRecDepth 100000 in
set_option maxHeartbeats 8000000 in
theorem lawIvf_few (ao : Option Addr) (len cap : Nat) (w : World) (hn : len ≤ 1048576) (hcode : IsCode w.heap.size w (.slice ao len cap)) :
    Calls Tryz.prog 3 #[.slice ao len cap] w fun e w' => e = .returned (.bool true) ∧ Below w.heap.size w w' := by
  have HC := hide hcode
  clear hcode
  go_enter Tryz.func3, Tryz.ntmps3
  go_wp2_with fail
  refine (big_no ao len cap w hn).mono ?_
  rintro e w ⟨rfl, rfl⟩
  go_wp2_with fail
  refine (drawSI ao len cap w (unhide HC)).mono ?_
  rintro e w1 ⟨rc, rl, x, vv, vec, kk, n, rfl, hX, hV, hvl, hb1⟩
  obtain ⟨a8, c8, a9, c9, ef, -⟩ := open_Ivf hX
  obtain ⟨rfl, rfl⟩ : rc = .slice a8 x.centers.length c8 ∧ rl = .slice a9 x.lists.length c9 := by simpa using ef
  obtain ⟨av, dv, rfl⟩ := open_sl hV
  clear ef
  have nb1 : Below w1.heap.size w1 (w1.alloc (.cells #[.slice a8 x.centers.length c8, .slice a9 x.lists.length c9] 27)) := (Below.refl _ _).alloc (Nat.le_refl _) _
  have x3 : Box 0 #[.slice a8 x.centers.length c8, .slice a9 x.lists.length c9] 27 (w1.alloc (.cells #[.slice a8 x.centers.length c8, .slice a9 x.lists.length c9] 27)) w1.heap.size := newBox (Nat.zero_le _)
  have z0 : (w1.alloc (.cells #[.slice a8 x.centers.length c8, .slice a9 x.lists.length c9] 27)).cell? ⟨w1.heap.size, 0, none⟩ = some (.slice a8 x.centers.length c8) := x3.at 0 _ rfl
  have z1 : (w1.alloc (.cells #[.slice a8 x.centers.length c8, .slice a9 x.lists.length c9] 27)).cell? ⟨w1.heap.size, 1, none⟩ = some (.slice a9 x.lists.length c9) := x3.at 1 _ rfl
  have HX3 := hide x3
  have HRX := hide (hX.later nb1)
  have HRV := hide (hV.later nb1)
  have HB := hide (hb1.trans (nb1.mono hb1.size))
  have L2 := hide (implSearchIvf _ x _ vec kk n _ (unhide HRX) (unhide HRV))
  clear hX hV hb1 nb1 x3 HC hvl
  go_wp2_with fail
  generalize w1.alloc (.cells #[.slice a8 x.centers.length c8, .slice a9 x.lists.length c9] 27) = W1 at *
  clear z0 z1
  refine (unhide L2).mono ?_
  rintro e w2 ⟨cs, rfl, O, hb2⟩
  obtain ⟨a1, d1, rfl, R2⟩ := open_HitsResult O.reads
  clear O
  by_cases hf : (searchIvfR x vec kk n).code = 0
  · obtain ⟨LI, A, B, hT⟩ := ivf_told hf
    have e2 := hT.told
    have e3 := hT.items
    have e4 := hT.all
    have e5 := hT.full
    have hAB := hT.few
    have hB20 := hT.most
    have HVQ := hide hT.vec
    have HFR := hide hT.right
    have HEA := hide hT.each
    rw [e2] at R2 ⊢
    simp only at R2 ⊢
    clear hf hT
    have nb2 : Below w2.heap.size w2 (w2.alloc (.cells #[.int .i64 0, .slice a1 A.length d1] 33)) := (Below.refl _ _).alloc (Nat.le_refl _) _
    have x2 : Box 0 #[.int .i64 0, .slice a1 A.length d1] 33 (w2.alloc (.cells #[.int .i64 0, .slice a1 A.length d1] 33)) w2.heap.size := newBox (Nat.zero_le _)
    replace HX3 := hide (((unhide HX3).keep hb2).keep nb2)
    replace HRX := hide (((unhide HRX).later hb2).later nb2)
    replace HRV := hide (((unhide HRV).later hb2).later nb2)
    have HB2 := hide x2
    have HR2 := hide (R2.later nb2)
    replace HB := hide (((unhide HB).trans (hb2.mono (unhide HB).size)).trans (nb2.mono (Nat.le_trans (unhide HB).size hb2.size)))
    clear R2 nb2 x2 hb2 L2
    have z9 : (w2.alloc (.cells #[.int .i64 0, .slice a1 A.length d1] 33)).cell? ⟨w2.heap.size, 0, none⟩ = some (.int .i64 0) := (unhide HB2).at 0 _ rfl
    have z0 : (w2.alloc (.cells #[.int .i64 0, .slice a1 A.length d1] 33)).cell? ⟨w1.heap.size, 0, none⟩ = some (.slice a8 x.centers.length c8) := (unhide HX3).at 0 _ rfl
    have z1 : (w2.alloc (.cells #[.int .i64 0, .slice a1 A.length d1] 33)).cell? ⟨w1.heap.size, 1, none⟩ = some (.slice a9 x.lists.length c9) := (unhide HX3).at 1 _ rfl
    have L3 := hide (implItemsIvf _ x _ (unhide HRX))
    rw [e3] at L3
    go_wp2_with fail
    generalize w2.alloc (.cells #[.int .i64 0, .slice a1 A.length d1] 33) = W2 at *
    clear z0 z1
    refine (unhide L3).mono ?_
    rintro e w3 ⟨cs, rfl, O, hb3⟩
    obtain ⟨a3, d3, rfl, R3⟩ := open_TableResult O.reads
    simp only at R3 ⊢
    clear O
    clear z9
    have nb3 : Below w3.heap.size w3 (w3.alloc (.cells #[.int .i64 0, .slice a3 LI.length d3] 37)) := (Below.refl _ _).alloc (Nat.le_refl _) _
    have x3 : Box 0 #[.int .i64 0, .slice a3 LI.length d3] 37 (w3.alloc (.cells #[.int .i64 0, .slice a3 LI.length d3] 37)) w3.heap.size := newBox (Nat.zero_le _)
    replace HX3 := hide (((unhide HX3).keep hb3).keep nb3)
    replace HB2 := hide (((unhide HB2).keep hb3).keep nb3)
    replace HRX := hide (((unhide HRX).later hb3).later nb3)
    replace HRV := hide (((unhide HRV).later hb3).later nb3)
    replace HR2 := hide (((unhide HR2).later hb3).later nb3)
    have HB3 := hide x3
    have HR3 := hide (R3.later nb3)
    replace HB := hide (((unhide HB).trans (hb3.mono (unhide HB).size)).trans (nb3.mono (Nat.le_trans (unhide HB).size hb3.size)))
    clear R3 nb3 x3 hb3 L3
    have z3 : (w3.alloc (.cells #[.int .i64 0, .slice a3 LI.length d3] 37)).cell? ⟨w3.heap.size, 1, none⟩ = some (.slice a3 LI.length d3) := (unhide HB3).at 1 _ rfl
    have L4 := hide (implSearch _ LI _ vec kk _ (unhide HR3) (unhide HRV))
    rw [e4] at L4
    go_wp2_with fail
    generalize w3.alloc (.cells #[.int .i64 0, .slice a3 LI.length d3] 37) = W3 at *
    clear z3
    refine (unhide L4).mono ?_
    rintro e w4 ⟨cs, rfl, O, hb4⟩
    obtain ⟨a4, d4, rfl, R4⟩ := open_HitsResult O.reads
    simp only at R4 ⊢
    clear O
    have nb4 : Below w4.heap.size w4 (w4.alloc (.cells #[.int .i64 0, .slice a4 B.length d4] 33)) := (Below.refl _ _).alloc (Nat.le_refl _) _
    have x4 : Box 0 #[.int .i64 0, .slice a4 B.length d4] 33 (w4.alloc (.cells #[.int .i64 0, .slice a4 B.length d4] 33)) w4.heap.size := newBox (Nat.zero_le _)
    replace HX3 := hide (((unhide HX3).keep hb4).keep nb4)
    replace HB2 := hide (((unhide HB2).keep hb4).keep nb4)
    replace HB3 := hide (((unhide HB3).keep hb4).keep nb4)
    replace HRX := hide (((unhide HRX).later hb4).later nb4)
    replace HRV := hide (((unhide HRV).later hb4).later nb4)
    replace HR2 := hide (((unhide HR2).later hb4).later nb4)
    replace HR3 := hide (((unhide HR3).later hb4).later nb4)
    have HB4 := hide x4
    have HR4 := hide (R4.later nb4)
    replace HB := hide (((unhide HB).trans (hb4.mono (unhide HB).size)).trans (nb4.mono (Nat.le_trans (unhide HB).size hb4.size)))
    clear R4 nb4 x4 hb4 L4
    have z0 : (w4.alloc (.cells #[.int .i64 0, .slice a4 B.length d4] 33)).cell? ⟨w1.heap.size, 0, none⟩ = some (.slice a8 x.centers.length c8) := (unhide HX3).at 0 _ rfl
    have z1 : (w4.alloc (.cells #[.int .i64 0, .slice a4 B.length d4] 33)).cell? ⟨w1.heap.size, 1, none⟩ = some (.slice a9 x.lists.length c9) := (unhide HX3).at 1 _ rfl
    have L5 := hide (implSearchIvf _ x _ vec kk 6 _ (unhide HRX) (unhide HRV))
    rw [e5] at L5
    go_wp2_with fail
    generalize w4.alloc (.cells #[.int .i64 0, .slice a4 B.length d4] 33) = W4 at *
    clear z0 z1
    refine (unhide L5).mono ?_
    rintro e w5 ⟨cs, rfl, O, hb5⟩
    obtain ⟨a5, d5, rfl, R5⟩ := open_HitsResult O.reads
    simp only at R5 ⊢
    clear O
    have nb5 : Below w5.heap.size w5 (w5.alloc (.cells #[.int .i64 0, .slice a5 B.length d5] 33)) := (Below.refl _ _).alloc (Nat.le_refl _) _
    have x5 : Box 0 #[.int .i64 0, .slice a5 B.length d5] 33 (w5.alloc (.cells #[.int .i64 0, .slice a5 B.length d5] 33)) w5.heap.size := newBox (Nat.zero_le _)
    replace HX3 := hide (((unhide HX3).keep hb5).keep nb5)
    replace HB2 := hide (((unhide HB2).keep hb5).keep nb5)
    replace HB3 := hide (((unhide HB3).keep hb5).keep nb5)
    replace HB4 := hide (((unhide HB4).keep hb5).keep nb5)
    replace HRX := hide (((unhide HRX).later hb5).later nb5)
    replace HRV := hide (((unhide HRV).later hb5).later nb5)
    replace HR2 := hide (((unhide HR2).later hb5).later nb5)
    replace HR3 := hide (((unhide HR3).later hb5).later nb5)
    replace HR4 := hide (((unhide HR4).later hb5).later nb5)
    have HB5 := hide x5
    have HR5 := hide (R5.later nb5)
    replace HB := hide (((unhide HB).trans (hb5.mono (unhide HB).size)).trans (nb5.mono (Nat.le_trans (unhide HB).size hb5.size)))
    clear R5 nb5 x5 hb5 L5
    go_wp2_with fail
    generalize w5.alloc (.cells #[.int .i64 0, .slice a5 B.length d5] 33) = wz at *
    have KEEP : Hid (∀ W, Below wz.heap.size wz W → W.cell? ⟨w2.heap.size, 1, none⟩ = some (.slice a1 A.length d1) ∧ W.cell? ⟨w3.heap.size, 1, none⟩ = some (.slice a3 LI.length d3) ∧ W.cell? ⟨w4.heap.size, 1, none⟩ = some (.slice a4 B.length d4) ∧ W.cell? ⟨w5.heap.size, 1, none⟩ = some (.slice a5 B.length d5) ∧ W.cell? ⟨w1.heap.size, 0, none⟩ = some (.slice a8 x.centers.length c8) ∧ W.cell? ⟨w1.heap.size, 1, none⟩ = some (.slice a9 x.lists.length c9) ∧ W.cell? ⟨w3.heap.size, 0, none⟩ = some (.int .i64 0)) := fun W hW =>
      ⟨((unhide HB2).keep hW).at 1 _ rfl, ((unhide HB3).keep hW).at 1 _ rfl, ((unhide HB4).keep hW).at 1 _ rfl, ((unhide HB5).keep hW).at 1 _ rfl, ((unhide HX3).keep hW).at 0 _ rfl, ((unhide HX3).keep hW).at 1 _ rfl, ((unhide HB3).keep hW).at 0 _ rfl⟩
    clear e3 e4 e5 HX3 HB2 HB3 HB4 HB5
    go_loopw [11] (fun i wr => ∃ k : Nat, k ≤ A.length ∧ i = .int .i64 k ∧ Below wz.heap.size wz wr) (fun i _ => A.length - (intOf i).toNat)
    case atStart => exact ⟨0, Nat.zero_le _, rfl, Below.refl _ _⟩
    case round =>
      obtain ⟨k, hk, rfl, hBr⟩ := hrel
      obtain ⟨y0, y1, y2, y3, y4, y5, y6⟩ := unhide KEEP _ hBr
      have HBr := hide hBr
      clear hBr
      by_cases hlt : k < A.length
      · obtain ⟨hkB, v, hget, hvf, hsc, hbt⟩ := unhide HEA k hlt
        obtain ⟨b4, o4, rfl, hbl4⟩ := Lay.sl_addr (unhide HR2) (by omega)
        obtain ⟨row, hc, hr⟩ := Lay.row_at (unhide HR2) hlt
        obtain ⟨bl, hlh⟩ := hr
        obtain ⟨rfl, -, hidw, -⟩ := lies_Hit.1 hlh
        have p0 : wz.cell? ⟨b4, o4 + k * 2, none⟩ = some (.int .i64 (A[k]).id) := hc 0 (by decide)
        have p1 : wz.cell? ⟨b4, o4 + k * 2 + 1, none⟩ = some (.int .i64 (A[k]).score) := hc 1 (by decide)
        clear hc hlh
        obtain ⟨b5, o5, rfl, hbl5⟩ := Lay.sl_addr (unhide HR4) (by omega)
        obtain ⟨row, hc, hr⟩ := Lay.row_at (unhide HR4) hkB
        obtain ⟨bl, hlh⟩ := hr
        obtain ⟨rfl, -⟩ := lies_Hit.1 hlh
        have q0 : wz.cell? ⟨b5, o5 + k * 2, none⟩ = some (.int .i64 (B[k]).id) := hc 0 (by decide)
        have q1 : wz.cell? ⟨b5, o5 + k * 2 + 1, none⟩ = some (.int .i64 (B[k]).score) := hc 1 (by decide)
        clear hc hlh
        have LB : Hid (∀ W, Calls Tryz.prog 15 #[.agg #[.int .i64 (A[k]).id, .int .i64 (A[k]).score], .agg #[.int .i64 (B[k]).id, .int .i64 (B[k]).score]] W fun e w' => e = .returned (.bool false) ∧ Below W.heap.size W w') := fun W => by
          have h9 := implBetter (A[k]).id (A[k]).score (B[k]).id (B[k]).score W
          rwa [hbt] at h9
        have LG : Hid (∀ W, Below wz.heap.size wz W → Calls Tryz.prog 13 #[.slice a3 LI.length d3, .int .i64 (A[k]).id] W fun e w' => ∃ (a6 : Option Addr) (d6 : Nat), e = .returned (.agg #[.int .i64 0, .slice a6 v.length d6]) ∧ (Lay.sl Lay.int).LiesIn w' [.slice a6 v.length d6] v W.heap.size w'.heap.size ∧ Below W.heap.size W w') := fun W hW => by
          refine (implGet _ LI (A[k]).id W ((unhide HR3).later hW) hidw).mono ?_
          rintro e w' ⟨cs, rfl, O, hb⟩
          rw [hget] at O
          obtain ⟨a6, d6, rfl, l6⟩ := lies_list O.lies
          exact ⟨a6, d6, rfl, l6, hb⟩
        have LS : Hid (∀ W (a6 : Option Addr) (d6 : Nat), Below wz.heap.size wz W → (Lay.sl Lay.int).Reads W [.slice a6 v.length d6] v → Calls Tryz.prog 14 #[.slice av vec.length dv, .slice a6 v.length d6] W fun e w' => e = .returned (.agg #[.int .i64 0, .int .i64 (A[k]).score]) ∧ Below W.heap.size W w') := fun W a6 d6 hW h6 => by
          have h9 := scoreI (.slice av vec.length dv) (.slice a6 v.length d6) vec v W (Lay.ints_reads ((unhide HRV).later hW)) (Lay.ints_reads h6) (unhide HVQ) hvf
          rwa [hsc] at h9
        clear hget hvf hsc hbt hidw
        generalize (A[k]).id = i1 at *
        generalize (A[k]).score = i2 at *
        generalize (B[k]).id = j1 at *
        generalize (B[k]).score = j2 at *
        have t1 : (0 : Int) ≤ (k : Int) := by omega
        have t2 : (k : Int) < (A.length : Int) := by omega
        have t3 : (k : Int) < (B.length : Int) := by omega
        have hzr := (unhide HBr).size
        have hfi := fieldII1
        clear HR2 HR3 HR4 HR5 HRX HFR HEA
        go_wp2_with fail
        clear y0 y1 y2 y3 y4 y5 y6
        have hD0 : wr.heap.size ≤ wr.drew.heap.size := Nat.le_refl _
        refine wp_region_noPanic ?_
        refine wp_region_held_drew (S := fun w' => Below wz.heap.size wz w') (by kernel_rfl) (unhide HBr).drew (fun hHeld => ?_)
        generalize wr.drew = wD at hHeld hD0 ⊢
        refine wpAnyH_take (i := 0) (oi := { dst := some 57, op := Go.Op.fieldAddr 37 (Go.Operand.tmp 8) 1, type := 0, pos := "laws.go:304", after := #[], guard := none }) (v := ?vg0_1) rfl (by kernel_rfl) (by kernel_rfl) (by kernel_rfl) (fun _ _ _ h => h) (Or.inl ⟨by rfl, ?hg0_1⟩) hHeld ?rg0_1
        case hg0_1 =>
          intro wS hSw
          (try dsimp only at hSw)
          go_simp
          try with_reducible rfl
        case rg0_1 =>
        simp only [Act.put, List.setIfInBounds_toArray, List.set_cons_zero, List.set_cons_succ]
        refine wpAnyH_take (i := 1) (oi := { dst := some 58, op := Go.Op.load 35 (Go.Operand.tmp 57), type := 35, pos := "laws.go:304", after := #[{ on := 0, ground := Go.Ground.data }], guard := none }) (v := ?vg1_2) rfl (by kernel_rfl) (by kernel_rfl) (by kernel_rfl) (fun _ _ _ h => h) (Or.inl ⟨by rfl, ?hg1_2⟩) hHeld ?rg1_2
        case hg1_2 =>
          intro wS hSw
          obtain ⟨y0, y1, y2, y3, y4, y5, y6⟩ := unhide KEEP _ hSw
          clear hSw
          (try dsimp only at hSw)
          go_simp
          try with_reducible rfl
        case rg1_2 =>
        simp only [Act.put, List.setIfInBounds_toArray, List.set_cons_zero, List.set_cons_succ]
        refine wpAnyH_take (i := 2) (oi := { dst := some 59, op := Go.Op.fieldAddr 33 (Go.Operand.tmp 7) 1, type := 0, pos := "laws.go:304", after := #[], guard := none }) (v := ?vg2_3) rfl (by kernel_rfl) (by kernel_rfl) (by kernel_rfl) (fun _ _ _ h => h) (Or.inl ⟨by rfl, ?hg2_3⟩) hHeld ?rg2_3
        case hg2_3 =>
          intro wS hSw
          (try dsimp only at hSw)
          go_simp
          try with_reducible rfl
        case rg2_3 =>
        simp only [Act.put, List.setIfInBounds_toArray, List.set_cons_zero, List.set_cons_succ]
        refine wpAnyH_take (i := 3) (oi := { dst := some 60, op := Go.Op.load 31 (Go.Operand.tmp 59), type := 31, pos := "laws.go:304", after := #[{ on := 2, ground := Go.Ground.data }], guard := none }) (v := ?vg3_4) rfl (by kernel_rfl) (by kernel_rfl) (by kernel_rfl) (fun _ _ _ h => h) (Or.inl ⟨by rfl, ?hg3_4⟩) hHeld ?rg3_4
        case hg3_4 =>
          intro wS hSw
          obtain ⟨y0, y1, y2, y3, y4, y5, y6⟩ := unhide KEEP _ hSw
          clear hSw
          (try dsimp only at hSw)
          go_simp
          try with_reducible rfl
        case rg3_4 =>
        simp only [Act.put, List.setIfInBounds_toArray, List.set_cons_zero, List.set_cons_succ]
        refine wpAnyH_take (i := 4) (oi := { dst := some 61, op := Go.Op.move (Go.Operand.tmp 11), type := 3, pos := "laws.go:304", after := #[], guard := none }) (v := ?vg4_5) rfl (by kernel_rfl) (by kernel_rfl) (by kernel_rfl) (fun _ _ _ h => h) (Or.inl ⟨by rfl, ?hg4_5⟩) hHeld ?rg4_5
        case hg4_5 =>
          intro wS hSw
          (try dsimp only at hSw)
          go_simp
          try with_reducible rfl
        case rg4_5 =>
        simp only [Act.put, List.setIfInBounds_toArray, List.set_cons_zero, List.set_cons_succ]
        refine wpAnyH_take (i := 5) (oi := { dst := some 62, op := Go.Op.indexAddr 31 (Go.Operand.tmp 60) (Go.Operand.tmp 61), type := 0, pos := "laws.go:304", after := #[{ on := 3, ground := Go.Ground.data }, { on := 4, ground := Go.Ground.data }], guard := none }) (v := ?vg5_6) rfl (by kernel_rfl) (by kernel_rfl) (by kernel_rfl) (fun _ _ _ h => h) (Or.inl ⟨by rfl, ?hg5_6⟩) hHeld ?rg5_6
        case hg5_6 =>
          intro wS hSw
          (try dsimp only at hSw)
          go_simp
          try with_reducible rfl
        case rg5_6 =>
        simp only [Act.put, List.setIfInBounds_toArray, List.set_cons_zero, List.set_cons_succ]
        refine wpAnyH_take (i := 6) (oi := { dst := some 63, op := Go.Op.fieldAddr 44 (Go.Operand.tmp 62) 0, type := 0, pos := "laws.go:304", after := #[{ on := 5, ground := Go.Ground.data }], guard := none }) (v := ?vg6_7) rfl (by kernel_rfl) (by kernel_rfl) (by kernel_rfl) (fun _ _ _ h => h) (Or.inl ⟨by rfl, ?hg6_7⟩) hHeld ?rg6_7
        case hg6_7 =>
          intro wS hSw
          (try dsimp only at hSw)
          go_simp
          try with_reducible rfl
        case rg6_7 =>
        simp only [Act.put, List.setIfInBounds_toArray, List.set_cons_zero, List.set_cons_succ]
        refine wpAnyH_take (i := 7) (oi := { dst := some 64, op := Go.Op.load 2 (Go.Operand.tmp 63), type := 2, pos := "laws.go:304", after := #[{ on := 6, ground := Go.Ground.data }], guard := none }) (v := ?vg7_8) rfl (by kernel_rfl) (by kernel_rfl) (by kernel_rfl) (fun _ _ _ h => h) (Or.inl ⟨by rfl, ?hg7_8⟩) hHeld ?rg7_8
        case hg7_8 =>
          intro wS hSw
          have n0 := (hSw.cell (p := ⟨b4, o4 + k * 2, none⟩) hbl4).trans p0
          clear hSw
          (try dsimp only at hSw)
          go_simp
          try with_reducible rfl
        case rg7_8 =>
        simp only [Act.put, List.setIfInBounds_toArray, List.set_cons_zero, List.set_cons_succ]
        refine wpAnyH_ready (rs := [8, 9]) (by kernel_rfl) (by simp) ?_
        refine AllReadyH.cons (o := { dst := some 65, op := Go.Op.call { callee := Go.Callee.value (Go.Operand.func 13), args := #[Go.Operand.tmp 58, Go.Operand.tmp 64], argTypes := #[35, 2] }, type := 41, pos := "laws.go:304", after := #[{ on := 1, ground := Go.Ground.data }, { on := 7, ground := Go.Ground.data }], guard := none }) rfl (fun K hK => ?og8_9) (AllReadyH.cons (o := { dst := some 12, op := Go.Op.alloc 41, type := 0, pos := "laws.go:304", after := #[], guard := none }) rfl (fun K hK => ?og9_9) (AllReadyH.nil))
        case og8_9 =>
          go_simp
          go_at_call 13
          refine (unhide LG _ hHeld).mono ?_
          rintro e w6 ⟨a6, d6, rfl, l6, hbw⟩
          have hz6 := hbw.size
          try go_wp2_with fail
          refine hK.out _ _ (hHeld.trans (hbw.mono hHeld.size)) (fun hHeld => ?_)
          clear hK K
          try simp only [Act.put, List.setIfInBounds_toArray, List.set_cons_zero, List.set_cons_succ]
          refine wpAnyH_ready (rs := [9]) (by kernel_rfl) (by simp) ?_
          refine AllReadyH.cons (o := { dst := some 12, op := Go.Op.alloc 41, type := 0, pos := "laws.go:304", after := #[], guard := none }) rfl (fun K hK => ?_) AllReadyH.nil
          have hbX : Below w6.heap.size w6 (w6.alloc (.cells #[.int .i64 0, .slice none 0 0] 41)) := (Below.refl _ _).alloc (Nat.le_refl _) _
          have bX : Box 0 #[.int .i64 0, .slice none 0 0] 41 (w6.alloc (.cells #[.int .i64 0, .slice none 0 0] 41)) w6.heap.size := newBox (Nat.zero_le _)
          replace l6 := l6.later hbX
          go_simp
          have sX : (w6.alloc (.cells #[.int .i64 0, .slice none 0 0] 41)).heap.size = w6.heap.size + 1 := by simp
          generalize w6.alloc (.cells #[.int .i64 0, .slice none 0 0] 41) = wX at *
          refine hK.out _ _ (hHeld.trans (hbX.mono hHeld.size)) (fun hHeld => ?_)
          clear hK K
          try simp only [Act.put, List.setIfInBounds_toArray, List.set_cons_zero, List.set_cons_succ]
          refine wpAnyH_ready (rs := [10]) (by kernel_rfl) (by simp) ?_
          refine AllReadyH.cons (o := { dst := none, op := Go.Op.store 41 (Go.Operand.tmp 12) (Go.Operand.tmp 65), type := 0, pos := "laws.go:304", after := #[{ on := 9, ground := Go.Ground.data }, { on := 8, ground := Go.Ground.data }, { on := 8, ground := Go.Ground.chain }, { on := 0, ground := Go.Ground.phase }, { on := 1, ground := Go.Ground.phase }, { on := 2, ground := Go.Ground.phase }, { on := 3, ground := Go.Ground.phase }, { on := 4, ground := Go.Ground.phase }, { on := 5, ground := Go.Ground.phase }, { on := 6, ground := Go.Ground.phase }, { on := 7, ground := Go.Ground.phase }, { on := 8, ground := Go.Ground.phase }, { on := 9, ground := Go.Ground.phase }], guard := none }) rfl (fun K hK => ?_) AllReadyH.nil
          have y0 := bX.at 0 _ rfl
          have y1 := bX.at 1 _ rfl
          have f0 := bX.soft 0
          have f1 := bX.soft 1
          have lX := bX.lt
          have gX : wr.heap.size ≤ wD.heap.size := hD0
          go_simp
          refine hK.out _ _ ((hHeld.setCell (by simp; omega) _).setCell (by simp; omega) _) (fun hHeld => ?_)
          clear hK K
          try simp only [Act.put, List.setIfInBounds_toArray, List.set_cons_zero, List.set_cons_succ]
          refine wpAnyH_done (by kernel_rfl) ?_ _
          refine NoPanic.normal ?_
          have bV := (bX.set 0 (.int .i64 0)).set 1 (.slice a6 v.length d6)
          simp only [List.setIfInBounds_toArray, List.set_cons_zero, List.set_cons_succ] at bV
          have HV6 := hide (l6.ext (((Ext.refl (fun q => q = w6.heap.size) wX).setCell ⟨w6.heap.size, 0, none⟩ (.int .i64 0) rfl).setCell ⟨w6.heap.size, 1, none⟩ (.slice a6 v.length d6) rfl) (fun q h1 h2 h3 => by omega)).reads
          have HBV := hide bV
          have HBE := hide hHeld
          generalize (wX.setCell ⟨w6.heap.size, 0, none⟩ (.int .i64 0)).setCell ⟨w6.heap.size, 1, none⟩ (.slice a6 v.length d6) = wE at *
          have z0 := bV.at 0 _ rfl
          have z1 := bV.at 1 _ rfl
          obtain ⟨y0, y1, y2, y3, y4, y5, y6⟩ := unhide KEEP _ (unhide HBE)
          clear hHeld bX f0 f1 lX gX hbX sX bV l6 hz6 hbw
          go_wp2_with fail
          clear z0 z1 y0 y1 y2 y3 y4 y5 y6
          refine wp_region_noPanic ?_
          refine wp_region_held_drew (S := fun w' => Below wE.heap.size wE w') (by kernel_rfl) (Below.refl _ _).drew (fun hHeld => ?_)
          generalize wE.drew = wG at hHeld ⊢
          refine wpAnyH_take (i := 0) (oi := { dst := some 66, op := Go.Op.fieldAddr 41 (Go.Operand.tmp 12) 0, type := 0, pos := "laws.go:305", after := #[], guard := none }) (v := ?vs10_1) rfl (by kernel_rfl) (by kernel_rfl) (by kernel_rfl) (fun _ _ _ h => h) (Or.inl ⟨by rfl, ?hs10_1⟩) hHeld ?rs10_1
          case hs10_1 =>
            intro wS hSw
            (try dsimp only at hSw)
            go_simp
            try with_reducible rfl
          case rs10_1 =>
          simp only [Act.put, List.setIfInBounds_toArray, List.set_cons_zero, List.set_cons_succ]
          refine wpAnyH_take (i := 1) (oi := { dst := some 67, op := Go.Op.load 2 (Go.Operand.tmp 66), type := 2, pos := "laws.go:305", after := #[{ on := 0, ground := Go.Ground.data }], guard := none }) (v := ?vs11_2) rfl (by kernel_rfl) (by kernel_rfl) (by kernel_rfl) (fun _ _ _ h => h) (Or.inl ⟨by rfl, ?hs11_2⟩) hHeld ?rs11_2
          case hs11_2 =>
            intro wS hSw
            have m0 := ((unhide HBV).keep hSw).at 0 _ rfl
            clear hSw
            (try dsimp only at hSw)
            go_simp
            try with_reducible rfl
          case rs11_2 =>
          simp only [Act.put, List.setIfInBounds_toArray, List.set_cons_zero, List.set_cons_succ]
          refine wpAnyH_take (i := 2) (oi := { dst := some 68, op := Go.Op.binOp Go.BinOp.neq 2 (Go.Operand.tmp 67) (Go.Operand.const (Go.Value.int Go.IntKind.i64 0)) 2, type := 4, pos := "laws.go:305", after := #[{ on := 1, ground := Go.Ground.data }], guard := none }) (v := ?vs12_3) rfl (by kernel_rfl) (by kernel_rfl) (by kernel_rfl) (fun _ _ _ h => h) (Or.inl ⟨by rfl, ?hs12_3⟩) hHeld ?rs12_3
          case hs12_3 =>
            intro wS hSw
            (try dsimp only at hSw)
            go_simp
            try with_reducible rfl
          case rs12_3 =>
          simp only [Act.put, List.setIfInBounds_toArray, List.set_cons_zero, List.set_cons_succ]
          refine wpAnyH_take (i := 3) (oi := { dst := some 69, op := Go.Op.move (Go.Operand.tmp 68), type := 4, pos := "laws.go:305", after := #[{ on := 2, ground := Go.Ground.data }], guard := none }) (v := ?vs13_4) rfl (by kernel_rfl) (by kernel_rfl) (by kernel_rfl) (fun _ _ _ h => h) (Or.inl ⟨by rfl, ?hs13_4⟩) hHeld ?rs13_4
          case hs13_4 =>
            intro wS hSw
            (try dsimp only at hSw)
            go_simp
            try with_reducible rfl
          case rs13_4 =>
          simp only [Act.put, List.setIfInBounds_toArray, List.set_cons_zero, List.set_cons_succ]
          refine wpAnyH_take (i := 4) (oi := { dst := some 70, op := Go.Op.move (Go.Operand.tmp 4), type := 28, pos := "laws.go:305", after := #[{ on := 3, ground := Go.Ground.guard }], guard := some (3, false) }) (v := ?vs14_5) rfl (by kernel_rfl) (by kernel_rfl) (by kernel_rfl) (fun _ _ _ h => h) (Or.inl ⟨by rfl, ?hs14_5⟩) hHeld ?rs14_5
          case hs14_5 =>
            intro wS hSw
            (try dsimp only at hSw)
            go_simp
            try with_reducible rfl
          case rs14_5 =>
          simp only [Act.put, List.setIfInBounds_toArray, List.set_cons_zero, List.set_cons_succ]
          refine wpAnyH_take (i := 5) (oi := { dst := some 71, op := Go.Op.fieldAddr 41 (Go.Operand.tmp 12) 1, type := 0, pos := "laws.go:305", after := #[{ on := 3, ground := Go.Ground.guard }], guard := some (3, false) }) (v := ?vs15_6) rfl (by kernel_rfl) (by kernel_rfl) (by kernel_rfl) (fun _ _ _ h => h) (Or.inl ⟨by rfl, ?hs15_6⟩) hHeld ?rs15_6
          case hs15_6 =>
            intro wS hSw
            (try dsimp only at hSw)
            go_simp
            try with_reducible rfl
          case rs15_6 =>
          simp only [Act.put, List.setIfInBounds_toArray, List.set_cons_zero, List.set_cons_succ]
          refine wpAnyH_take (i := 6) (oi := { dst := some 72, op := Go.Op.load 28 (Go.Operand.tmp 71), type := 28, pos := "laws.go:305", after := #[{ on := 5, ground := Go.Ground.data }, { on := 3, ground := Go.Ground.guard }], guard := some (3, false) }) (v := ?vs16_7) rfl (by kernel_rfl) (by kernel_rfl) (by kernel_rfl) (fun _ _ _ h => h) (Or.inl ⟨by rfl, ?hs16_7⟩) hHeld ?rs16_7
          case hs16_7 =>
            intro wS hSw
            have m0 := ((unhide HBV).keep hSw).at 1 _ rfl
            clear hSw
            (try dsimp only at hSw)
            go_simp
            try with_reducible rfl
          case rs16_7 =>
          simp only [Act.put, List.setIfInBounds_toArray, List.set_cons_zero, List.set_cons_succ]
          refine wpAnyH_take (i := 9) (oi := { dst := some 75, op := Go.Op.fieldAddr 33 (Go.Operand.tmp 7) 1, type := 0, pos := "laws.go:305", after := #[{ on := 3, ground := Go.Ground.guard }], guard := some (3, false) }) (v := ?vs19_8) rfl (by kernel_rfl) (by kernel_rfl) (by kernel_rfl) (fun _ _ _ h => h) (Or.inl ⟨by rfl, ?hs19_8⟩) hHeld ?rs19_8
          case hs19_8 =>
            intro wS hSw
            (try dsimp only at hSw)
            go_simp
            try with_reducible rfl
          case rs19_8 =>
          simp only [Act.put, List.setIfInBounds_toArray, List.set_cons_zero, List.set_cons_succ]
          refine wpAnyH_take (i := 10) (oi := { dst := some 76, op := Go.Op.load 31 (Go.Operand.tmp 75), type := 31, pos := "laws.go:305", after := #[{ on := 9, ground := Go.Ground.data }, { on := 3, ground := Go.Ground.guard }], guard := some (3, false) }) (v := ?vs110_9) rfl (by kernel_rfl) (by kernel_rfl) (by kernel_rfl) (fun _ _ _ h => h) (Or.inl ⟨by rfl, ?hs110_9⟩) hHeld ?rs110_9
          case hs110_9 =>
            intro wS hSw
            obtain ⟨y0, y1, y2, y3, y4, y5, y6⟩ := unhide KEEP _ ((unhide HBE).trans (hSw.mono (unhide HBE).size))
            clear hSw
            (try dsimp only at hSw)
            go_simp
            try with_reducible rfl
          case rs110_9 =>
          simp only [Act.put, List.setIfInBounds_toArray, List.set_cons_zero, List.set_cons_succ]
          refine wpAnyH_take (i := 11) (oi := { dst := some 77, op := Go.Op.move (Go.Operand.tmp 11), type := 3, pos := "laws.go:305", after := #[{ on := 3, ground := Go.Ground.guard }], guard := some (3, false) }) (v := ?vs111_10) rfl (by kernel_rfl) (by kernel_rfl) (by kernel_rfl) (fun _ _ _ h => h) (Or.inl ⟨by rfl, ?hs111_10⟩) hHeld ?rs111_10
          case hs111_10 =>
            intro wS hSw
            (try dsimp only at hSw)
            go_simp
            try with_reducible rfl
          case rs111_10 =>
          simp only [Act.put, List.setIfInBounds_toArray, List.set_cons_zero, List.set_cons_succ]
          refine wpAnyH_take (i := 12) (oi := { dst := some 78, op := Go.Op.indexAddr 31 (Go.Operand.tmp 76) (Go.Operand.tmp 77), type := 0, pos := "laws.go:305", after := #[{ on := 10, ground := Go.Ground.data }, { on := 11, ground := Go.Ground.data }, { on := 3, ground := Go.Ground.guard }], guard := some (3, false) }) (v := ?vs112_11) rfl (by kernel_rfl) (by kernel_rfl) (by kernel_rfl) (fun _ _ _ h => h) (Or.inl ⟨by rfl, ?hs112_11⟩) hHeld ?rs112_11
          case hs112_11 =>
            intro wS hSw
            (try dsimp only at hSw)
            go_simp
            try with_reducible rfl
          case rs112_11 =>
          simp only [Act.put, List.setIfInBounds_toArray, List.set_cons_zero, List.set_cons_succ]
          refine wpAnyH_take (i := 13) (oi := { dst := some 79, op := Go.Op.fieldAddr 44 (Go.Operand.tmp 78) 1, type := 0, pos := "laws.go:305", after := #[{ on := 12, ground := Go.Ground.data }, { on := 3, ground := Go.Ground.guard }], guard := some (3, false) }) (v := ?vs113_12) rfl (by kernel_rfl) (by kernel_rfl) (by kernel_rfl) (fun _ _ _ h => h) (Or.inl ⟨by rfl, ?hs113_12⟩) hHeld ?rs113_12
          case hs113_12 =>
            intro wS hSw
            (try dsimp only at hSw)
            go_simp
            try with_reducible rfl
          case rs113_12 =>
          simp only [Act.put, List.setIfInBounds_toArray, List.set_cons_zero, List.set_cons_succ]
          refine wpAnyH_take (i := 14) (oi := { dst := some 80, op := Go.Op.load 2 (Go.Operand.tmp 79), type := 2, pos := "laws.go:305", after := #[{ on := 13, ground := Go.Ground.data }, { on := 3, ground := Go.Ground.guard }], guard := some (3, false) }) (v := ?vs114_13) rfl (by kernel_rfl) (by kernel_rfl) (by kernel_rfl) (fun _ _ _ h => h) (Or.inl ⟨by rfl, ?hs114_13⟩) hHeld ?rs114_13
          case hs114_13 =>
            intro wS hSw
            have hWz := (unhide HBE).trans (hSw.mono (unhide HBE).size)
            have np0 := (hWz.cell (p := ⟨b4, o4 + k * 2, none⟩) hbl4).trans p0
            have np1 := (hWz.cell (p := ⟨b4, o4 + k * 2 + 1, none⟩) hbl4).trans p1
            clear hSw hWz
            (try dsimp only at hSw)
            go_simp
            try with_reducible rfl
          case rs114_13 =>
          simp only [Act.put, List.setIfInBounds_toArray, List.set_cons_zero, List.set_cons_succ]
          refine wpAnyH_ready (rs := [7]) (by kernel_rfl) (by simp) ?_
          refine AllReadyH.cons (o := { dst := some 73, op := Go.Op.call { callee := Go.Callee.value (Go.Operand.func 14), args := #[Go.Operand.tmp 70, Go.Operand.tmp 72], argTypes := #[28, 28] }, type := 46, pos := "laws.go:305", after := #[{ on := 4, ground := Go.Ground.data }, { on := 6, ground := Go.Ground.data }, { on := 3, ground := Go.Ground.chain }, { on := 3, ground := Go.Ground.guard }], guard := some (3, false) }) rfl (fun K hK => ?_) AllReadyH.nil
          go_simp
          go_at_call 14
          refine (unhide LS _ a6 d6 ((unhide HBE).trans (hHeld.mono (unhide HBE).size)) ((unhide HV6).later hHeld)).mono ?_
          rintro e v1 ⟨rfl, hbw⟩
          try go_wp2_with fail
          refine hK.out _ _ (hHeld.trans (hbw.mono hHeld.size)) (fun hHeld => ?_)
          clear hK K
          try simp only [Act.put, List.setIfInBounds_toArray, List.set_cons_zero, List.set_cons_succ]
          refine wpAnyH_take (i := 8) (oi := { dst := some 74, op := Go.Op.field 46 (Go.Operand.tmp 73) 1, type := 2, pos := "laws.go:305", after := #[{ on := 7, ground := Go.Ground.data }, { on := 3, ground := Go.Ground.guard }], guard := some (3, false) }) (v := ?vs18_14) rfl (by kernel_rfl) (by kernel_rfl) (by kernel_rfl) (fun _ _ _ h => h) (Or.inl ⟨by rfl, ?hs18_14⟩) hHeld ?rs18_14
          case hs18_14 =>
            intro wS hSw
            have yf := hfi
            clear hSw
            (try dsimp only at hSw)
            go_simp
            try with_reducible rfl
          case rs18_14 =>
          simp only [Act.put, List.setIfInBounds_toArray, List.set_cons_zero, List.set_cons_succ]
          refine wpAnyH_take (i := 15) (oi := { dst := some 81, op := Go.Op.binOp Go.BinOp.neq 2 (Go.Operand.tmp 74) (Go.Operand.tmp 80) 2, type := 4, pos := "laws.go:305", after := #[{ on := 8, ground := Go.Ground.data }, { on := 14, ground := Go.Ground.data }, { on := 3, ground := Go.Ground.guard }], guard := some (3, false) }) (v := ?vs115_15) rfl (by kernel_rfl) (by kernel_rfl) (by kernel_rfl) (fun _ _ _ h => h) (Or.inl ⟨by rfl, ?hs115_15⟩) hHeld ?rs115_15
          case hs115_15 =>
            intro wS hSw
            (try dsimp only at hSw)
            go_simp
            try with_reducible rfl
          case rs115_15 =>
          simp only [Act.put, List.setIfInBounds_toArray, List.set_cons_zero, List.set_cons_succ]
          refine wpAnyH_take (i := 16) (oi := { dst := some 82, op := Go.Op.pick (Go.Operand.tmp 69) (Go.Operand.const (Go.Value.bool true)) (Go.Operand.tmp 81), type := 4, pos := "laws.go:305", after := #[{ on := 3, ground := Go.Ground.data }, { on := 15, ground := Go.Ground.data }], guard := none }) (v := ?vs116_16) rfl (by kernel_rfl) (by kernel_rfl) (by kernel_rfl) (fun _ _ _ h => h) (Or.inl ⟨by rfl, ?hs116_16⟩) hHeld ?rs116_16
          case hs116_16 =>
            intro wS hSw
            (try dsimp only at hSw)
            go_simp
            try with_reducible rfl
          case rs116_16 =>
          simp only [Act.put, List.setIfInBounds_toArray, List.set_cons_zero, List.set_cons_succ]
          refine wpAnyH_take (i := 17) (oi := { dst := some 83, op := Go.Op.move (Go.Operand.tmp 82), type := 4, pos := "laws.go:305", after := #[{ on := 16, ground := Go.Ground.data }, { on := 7, ground := Go.Ground.chain }], guard := none }) (v := ?vs117_17) rfl (by kernel_rfl) (by kernel_rfl) (by kernel_rfl) (fun _ _ _ h => h) (Or.inl ⟨by rfl, ?hs117_17⟩) hHeld ?rs117_17
          case hs117_17 =>
            intro wS hSw
            (try dsimp only at hSw)
            go_simp
            try with_reducible rfl
          case rs117_17 =>
          simp only [Act.put, List.setIfInBounds_toArray, List.set_cons_zero, List.set_cons_succ]
          refine wpAnyH_take (i := 18) (oi := { dst := some 84, op := Go.Op.move (Go.Operand.tmp 11), type := 3, pos := "laws.go:305", after := #[{ on := 17, ground := Go.Ground.guard }], guard := some (17, false) }) (v := ?vs118_18) rfl (by kernel_rfl) (by kernel_rfl) (by kernel_rfl) (fun _ _ _ h => h) (Or.inl ⟨by rfl, ?hs118_18⟩) hHeld ?rs118_18
          case hs118_18 =>
            intro wS hSw
            (try dsimp only at hSw)
            go_simp
            try with_reducible rfl
          case rs118_18 =>
          simp only [Act.put, List.setIfInBounds_toArray, List.set_cons_zero, List.set_cons_succ]
          refine wpAnyH_take (i := 19) (oi := { dst := some 85, op := Go.Op.fieldAddr 33 (Go.Operand.tmp 9) 1, type := 0, pos := "laws.go:305", after := #[{ on := 17, ground := Go.Ground.guard }], guard := some (17, false) }) (v := ?vs119_19) rfl (by kernel_rfl) (by kernel_rfl) (by kernel_rfl) (fun _ _ _ h => h) (Or.inl ⟨by rfl, ?hs119_19⟩) hHeld ?rs119_19
          case hs119_19 =>
            intro wS hSw
            (try dsimp only at hSw)
            go_simp
            try with_reducible rfl
          case rs119_19 =>
          simp only [Act.put, List.setIfInBounds_toArray, List.set_cons_zero, List.set_cons_succ]
          refine wpAnyH_take (i := 20) (oi := { dst := some 86, op := Go.Op.load 31 (Go.Operand.tmp 85), type := 31, pos := "laws.go:305", after := #[{ on := 19, ground := Go.Ground.data }, { on := 17, ground := Go.Ground.guard }], guard := some (17, false) }) (v := ?vs120_20) rfl (by kernel_rfl) (by kernel_rfl) (by kernel_rfl) (fun _ _ _ h => h) (Or.inl ⟨by rfl, ?hs120_20⟩) hHeld ?rs120_20
          case hs120_20 =>
            intro wS hSw
            obtain ⟨y0, y1, y2, y3, y4, y5, y6⟩ := unhide KEEP _ ((unhide HBE).trans (hSw.mono (unhide HBE).size))
            clear hSw
            (try dsimp only at hSw)
            go_simp
            try with_reducible rfl
          case rs120_20 =>
          simp only [Act.put, List.setIfInBounds_toArray, List.set_cons_zero, List.set_cons_succ]
          refine wpAnyH_take (i := 21) (oi := { dst := some 87, op := Go.Op.call { callee := Go.Callee.builtin Go.Builtin.len, args := #[Go.Operand.tmp 86], argTypes := #[31] }, type := 3, pos := "laws.go:305", after := #[{ on := 20, ground := Go.Ground.data }, { on := 17, ground := Go.Ground.guard }], guard := some (17, false) }) (v := ?vs121_21) rfl (by kernel_rfl) (by kernel_rfl) (by kernel_rfl) (fun _ _ _ h => h) (Or.inl ⟨by rfl, ?hs121_21⟩) hHeld ?rs121_21
          case hs121_21 =>
            intro wS hSw
            (try dsimp only at hSw)
            go_simp
            try with_reducible rfl
          case rs121_21 =>
          simp only [Act.put, List.setIfInBounds_toArray, List.set_cons_zero, List.set_cons_succ]
          refine wpAnyH_take (i := 22) (oi := { dst := some 88, op := Go.Op.binOp Go.BinOp.lss 3 (Go.Operand.tmp 84) (Go.Operand.tmp 87) 3, type := 4, pos := "laws.go:305", after := #[{ on := 18, ground := Go.Ground.data }, { on := 21, ground := Go.Ground.data }, { on := 17, ground := Go.Ground.guard }], guard := some (17, false) }) (v := ?vs122_22) rfl (by kernel_rfl) (by kernel_rfl) (by kernel_rfl) (fun _ _ _ h => h) (Or.inl ⟨by rfl, ?hs122_22⟩) hHeld ?rs122_22
          case hs122_22 =>
            intro wS hSw
            (try dsimp only at hSw)
            go_simp
            try with_reducible rfl
          case rs122_22 =>
          simp only [Act.put, List.setIfInBounds_toArray, List.set_cons_zero, List.set_cons_succ]
          refine wpAnyH_take (i := 23) (oi := { dst := some 89, op := Go.Op.move (Go.Operand.tmp 88), type := 4, pos := "laws.go:305", after := #[{ on := 22, ground := Go.Ground.data }, { on := 17, ground := Go.Ground.chain }, { on := 17, ground := Go.Ground.guard }], guard := some (17, false) }) (v := ?vs123_23) rfl (by kernel_rfl) (by kernel_rfl) (by kernel_rfl) (fun _ _ _ h => h) (Or.inl ⟨by rfl, ?hs123_23⟩) hHeld ?rs123_23
          case hs123_23 =>
            intro wS hSw
            (try dsimp only at hSw)
            go_simp
            try with_reducible rfl
          case rs123_23 =>
          simp only [Act.put, List.setIfInBounds_toArray, List.set_cons_zero, List.set_cons_succ]
          refine wpAnyH_take (i := 24) (oi := { dst := some 90, op := Go.Op.fieldAddr 33 (Go.Operand.tmp 7) 1, type := 0, pos := "laws.go:305", after := #[{ on := 23, ground := Go.Ground.guard }], guard := some (23, true) }) (v := ?vs124_24) rfl (by kernel_rfl) (by kernel_rfl) (by kernel_rfl) (fun _ _ _ h => h) (Or.inl ⟨by rfl, ?hs124_24⟩) hHeld ?rs124_24
          case hs124_24 =>
            intro wS hSw
            (try dsimp only at hSw)
            go_simp
            try with_reducible rfl
          case rs124_24 =>
          simp only [Act.put, List.setIfInBounds_toArray, List.set_cons_zero, List.set_cons_succ]
          refine wpAnyH_take (i := 25) (oi := { dst := some 91, op := Go.Op.load 31 (Go.Operand.tmp 90), type := 31, pos := "laws.go:305", after := #[{ on := 24, ground := Go.Ground.data }, { on := 23, ground := Go.Ground.guard }], guard := some (23, true) }) (v := ?vs125_25) rfl (by kernel_rfl) (by kernel_rfl) (by kernel_rfl) (fun _ _ _ h => h) (Or.inl ⟨by rfl, ?hs125_25⟩) hHeld ?rs125_25
          case hs125_25 =>
            intro wS hSw
            obtain ⟨y0, y1, y2, y3, y4, y5, y6⟩ := unhide KEEP _ ((unhide HBE).trans (hSw.mono (unhide HBE).size))
            clear hSw
            (try dsimp only at hSw)
            go_simp
            try with_reducible rfl
          case rs125_25 =>
          simp only [Act.put, List.setIfInBounds_toArray, List.set_cons_zero, List.set_cons_succ]
          refine wpAnyH_take (i := 26) (oi := { dst := some 92, op := Go.Op.move (Go.Operand.tmp 11), type := 3, pos := "laws.go:305", after := #[{ on := 23, ground := Go.Ground.guard }], guard := some (23, true) }) (v := ?vs126_26) rfl (by kernel_rfl) (by kernel_rfl) (by kernel_rfl) (fun _ _ _ h => h) (Or.inl ⟨by rfl, ?hs126_26⟩) hHeld ?rs126_26
          case hs126_26 =>
            intro wS hSw
            (try dsimp only at hSw)
            go_simp
            try with_reducible rfl
          case rs126_26 =>
          simp only [Act.put, List.setIfInBounds_toArray, List.set_cons_zero, List.set_cons_succ]
          refine wpAnyH_take (i := 27) (oi := { dst := some 93, op := Go.Op.indexAddr 31 (Go.Operand.tmp 91) (Go.Operand.tmp 92), type := 0, pos := "laws.go:305", after := #[{ on := 25, ground := Go.Ground.data }, { on := 26, ground := Go.Ground.data }, { on := 23, ground := Go.Ground.guard }], guard := some (23, true) }) (v := ?vs127_27) rfl (by kernel_rfl) (by kernel_rfl) (by kernel_rfl) (fun _ _ _ h => h) (Or.inl ⟨by rfl, ?hs127_27⟩) hHeld ?rs127_27
          case hs127_27 =>
            intro wS hSw
            (try dsimp only at hSw)
            go_simp
            try with_reducible rfl
          case rs127_27 =>
          simp only [Act.put, List.setIfInBounds_toArray, List.set_cons_zero, List.set_cons_succ]
          refine wpAnyH_take (i := 28) (oi := { dst := some 94, op := Go.Op.load 44 (Go.Operand.tmp 93), type := 44, pos := "laws.go:305", after := #[{ on := 27, ground := Go.Ground.data }, { on := 23, ground := Go.Ground.guard }], guard := some (23, true) }) (v := ?vs128_28) rfl (by kernel_rfl) (by kernel_rfl) (by kernel_rfl) (fun _ _ _ h => h) (Or.inl ⟨by rfl, ?hs128_28⟩) hHeld ?rs128_28
          case hs128_28 =>
            intro wS hSw
            have hWz := (unhide HBE).trans (hSw.mono (unhide HBE).size)
            have np0 := (hWz.cell (p := ⟨b4, o4 + k * 2, none⟩) hbl4).trans p0
            have np1 := (hWz.cell (p := ⟨b4, o4 + k * 2 + 1, none⟩) hbl4).trans p1
            clear hSw hWz
            (try dsimp only at hSw)
            go_simp
            try with_reducible rfl
          case rs128_28 =>
          simp only [Act.put, List.setIfInBounds_toArray, List.set_cons_zero, List.set_cons_succ]
          refine wpAnyH_take (i := 29) (oi := { dst := some 95, op := Go.Op.fieldAddr 33 (Go.Operand.tmp 9) 1, type := 0, pos := "laws.go:305", after := #[{ on := 23, ground := Go.Ground.guard }], guard := some (23, true) }) (v := ?vs129_29) rfl (by kernel_rfl) (by kernel_rfl) (by kernel_rfl) (fun _ _ _ h => h) (Or.inl ⟨by rfl, ?hs129_29⟩) hHeld ?rs129_29
          case hs129_29 =>
            intro wS hSw
            (try dsimp only at hSw)
            go_simp
            try with_reducible rfl
          case rs129_29 =>
          simp only [Act.put, List.setIfInBounds_toArray, List.set_cons_zero, List.set_cons_succ]
          refine wpAnyH_take (i := 30) (oi := { dst := some 96, op := Go.Op.load 31 (Go.Operand.tmp 95), type := 31, pos := "laws.go:305", after := #[{ on := 29, ground := Go.Ground.data }, { on := 23, ground := Go.Ground.guard }], guard := some (23, true) }) (v := ?vs130_30) rfl (by kernel_rfl) (by kernel_rfl) (by kernel_rfl) (fun _ _ _ h => h) (Or.inl ⟨by rfl, ?hs130_30⟩) hHeld ?rs130_30
          case hs130_30 =>
            intro wS hSw
            obtain ⟨y0, y1, y2, y3, y4, y5, y6⟩ := unhide KEEP _ ((unhide HBE).trans (hSw.mono (unhide HBE).size))
            clear hSw
            (try dsimp only at hSw)
            go_simp
            try with_reducible rfl
          case rs130_30 =>
          simp only [Act.put, List.setIfInBounds_toArray, List.set_cons_zero, List.set_cons_succ]
          refine wpAnyH_take (i := 31) (oi := { dst := some 97, op := Go.Op.move (Go.Operand.tmp 11), type := 3, pos := "laws.go:305", after := #[{ on := 23, ground := Go.Ground.guard }], guard := some (23, true) }) (v := ?vs131_31) rfl (by kernel_rfl) (by kernel_rfl) (by kernel_rfl) (fun _ _ _ h => h) (Or.inl ⟨by rfl, ?hs131_31⟩) hHeld ?rs131_31
          case hs131_31 =>
            intro wS hSw
            (try dsimp only at hSw)
            go_simp
            try with_reducible rfl
          case rs131_31 =>
          simp only [Act.put, List.setIfInBounds_toArray, List.set_cons_zero, List.set_cons_succ]
          refine wpAnyH_take (i := 32) (oi := { dst := some 98, op := Go.Op.indexAddr 31 (Go.Operand.tmp 96) (Go.Operand.tmp 97), type := 0, pos := "laws.go:305", after := #[{ on := 30, ground := Go.Ground.data }, { on := 31, ground := Go.Ground.data }, { on := 23, ground := Go.Ground.guard }], guard := some (23, true) }) (v := ?vs132_32) rfl (by kernel_rfl) (by kernel_rfl) (by kernel_rfl) (fun _ _ _ h => h) (Or.inl ⟨by rfl, ?hs132_32⟩) hHeld ?rs132_32
          case hs132_32 =>
            intro wS hSw
            (try dsimp only at hSw)
            go_simp
            try with_reducible rfl
          case rs132_32 =>
          simp only [Act.put, List.setIfInBounds_toArray, List.set_cons_zero, List.set_cons_succ]
          refine wpAnyH_take (i := 33) (oi := { dst := some 99, op := Go.Op.load 44 (Go.Operand.tmp 98), type := 44, pos := "laws.go:305", after := #[{ on := 32, ground := Go.Ground.data }, { on := 23, ground := Go.Ground.guard }], guard := some (23, true) }) (v := ?vs133_33) rfl (by kernel_rfl) (by kernel_rfl) (by kernel_rfl) (fun _ _ _ h => h) (Or.inl ⟨by rfl, ?hs133_33⟩) hHeld ?rs133_33
          case hs133_33 =>
            intro wS hSw
            have hWz := (unhide HBE).trans (hSw.mono (unhide HBE).size)
            have nq0 := (hWz.cell (p := ⟨b5, o5 + k * 2, none⟩) hbl5).trans q0
            have nq1 := (hWz.cell (p := ⟨b5, o5 + k * 2 + 1, none⟩) hbl5).trans q1
            clear hSw hWz
            (try dsimp only at hSw)
            go_simp
            try with_reducible rfl
          case rs133_33 =>
          simp only [Act.put, List.setIfInBounds_toArray, List.set_cons_zero, List.set_cons_succ]
          refine wpAnyH_ready (rs := [34]) (by kernel_rfl) (by simp) ?_
          refine AllReadyH.cons (o := { dst := some 100, op := Go.Op.call { callee := Go.Callee.value (Go.Operand.func 15), args := #[Go.Operand.tmp 94, Go.Operand.tmp 99], argTypes := #[44, 44] }, type := 4, pos := "laws.go:305", after := #[{ on := 28, ground := Go.Ground.data }, { on := 33, ground := Go.Ground.data }, { on := 23, ground := Go.Ground.chain }, { on := 23, ground := Go.Ground.guard }], guard := some (23, true) }) rfl (fun K hK => ?_) AllReadyH.nil
          go_simp
          go_at_call 15
          refine (unhide LB _).mono ?_
          rintro e v2 ⟨rfl, hbv⟩
          try go_wp2_with fail
          refine hK.out _ _ (hHeld.trans (hbv.mono hHeld.size)) (fun hHeld => ?_)
          clear hK K
          try simp only [Act.put, List.setIfInBounds_toArray, List.set_cons_zero, List.set_cons_succ]
          refine wpAnyH_take (i := 35) (oi := { dst := some 101, op := Go.Op.pick (Go.Operand.tmp 89) (Go.Operand.tmp 100) (Go.Operand.const (Go.Value.bool false)), type := 4, pos := "laws.go:305", after := #[{ on := 23, ground := Go.Ground.data }, { on := 34, ground := Go.Ground.data }, { on := 17, ground := Go.Ground.guard }], guard := some (17, false) }) (v := ?vs135_34) rfl (by kernel_rfl) (by kernel_rfl) (by kernel_rfl) (fun _ _ _ h => h) (Or.inl ⟨by rfl, ?hs135_34⟩) hHeld ?rs135_34
          case hs135_34 =>
            intro wS hSw
            (try dsimp only at hSw)
            go_simp
            try with_reducible rfl
          case rs135_34 =>
          simp only [Act.put, List.setIfInBounds_toArray, List.set_cons_zero, List.set_cons_succ]
          refine wpAnyH_take (i := 36) (oi := { dst := some 102, op := Go.Op.pick (Go.Operand.tmp 83) (Go.Operand.const (Go.Value.bool true)) (Go.Operand.tmp 101), type := 4, pos := "laws.go:305", after := #[{ on := 17, ground := Go.Ground.data }, { on := 35, ground := Go.Ground.data }], guard := none }) (v := ?vs136_35) rfl (by kernel_rfl) (by kernel_rfl) (by kernel_rfl) (fun _ _ _ h => h) (Or.inl ⟨by rfl, ?hs136_35⟩) hHeld ?rs136_35
          case hs136_35 =>
            intro wS hSw
            (try dsimp only at hSw)
            go_simp
            try with_reducible rfl
          case rs136_35 =>
          simp only [Act.put, List.setIfInBounds_toArray, List.set_cons_zero, List.set_cons_succ]
          refine wpAnyH_done (by kernel_rfl) ?_ _
          refine NoPanic.normal ?_
          have HB9 := hide ((unhide HBE).trans (hHeld.mono (unhide HBE).size))
          clear hHeld p0 p1 q0 q1
          go_wp2_with fail
          go_roundw
          case rel => exact ⟨k + 1, by omega, by go_num, unhide HB9⟩
          case measure => simp [intOf]; omega
        case og9_9 =>
          have hbX : Below wD.heap.size wD (wD.alloc (.cells #[.int .i64 0, .slice none 0 0] 41)) := (Below.refl _ _).alloc (Nat.le_refl _) _
          have bX : Box 0 #[.int .i64 0, .slice none 0 0] 41 (wD.alloc (.cells #[.int .i64 0, .slice none 0 0] 41)) wD.heap.size := newBox (Nat.zero_le _)
          go_simp
          have sX : (wD.alloc (.cells #[.int .i64 0, .slice none 0 0] 41)).heap.size = wD.heap.size + 1 := by simp
          generalize wD.alloc (.cells #[.int .i64 0, .slice none 0 0] 41) = wX at *
          refine hK.out _ _ (hHeld.trans (hbX.mono hHeld.size)) (fun hHeld => ?_)
          clear hK K
          try simp only [Act.put, List.setIfInBounds_toArray, List.set_cons_zero, List.set_cons_succ]
          refine wpAnyH_ready (rs := [8]) (by kernel_rfl) (by simp) ?_
          refine AllReadyH.cons (o := { dst := some 65, op := Go.Op.call { callee := Go.Callee.value (Go.Operand.func 13), args := #[Go.Operand.tmp 58, Go.Operand.tmp 64], argTypes := #[35, 2] }, type := 41, pos := "laws.go:304", after := #[{ on := 1, ground := Go.Ground.data }, { on := 7, ground := Go.Ground.data }], guard := none }) rfl (fun K hK => ?_) AllReadyH.nil
          go_simp
          go_at_call 13
          refine (unhide LG _ hHeld).mono ?_
          rintro e w6 ⟨a6, d6, rfl, l6, hbw⟩
          have hz6 := hbw.size
          replace bX := bX.keep hbw
          try go_wp2_with fail
          refine hK.out _ _ (hHeld.trans (hbw.mono hHeld.size)) (fun hHeld => ?_)
          clear hK K
          try simp only [Act.put, List.setIfInBounds_toArray, List.set_cons_zero, List.set_cons_succ]
          refine wpAnyH_ready (rs := [10]) (by kernel_rfl) (by simp) ?_
          refine AllReadyH.cons (o := { dst := none, op := Go.Op.store 41 (Go.Operand.tmp 12) (Go.Operand.tmp 65), type := 0, pos := "laws.go:304", after := #[{ on := 9, ground := Go.Ground.data }, { on := 8, ground := Go.Ground.data }, { on := 8, ground := Go.Ground.chain }, { on := 0, ground := Go.Ground.phase }, { on := 1, ground := Go.Ground.phase }, { on := 2, ground := Go.Ground.phase }, { on := 3, ground := Go.Ground.phase }, { on := 4, ground := Go.Ground.phase }, { on := 5, ground := Go.Ground.phase }, { on := 6, ground := Go.Ground.phase }, { on := 7, ground := Go.Ground.phase }, { on := 8, ground := Go.Ground.phase }, { on := 9, ground := Go.Ground.phase }], guard := none }) rfl (fun K hK => ?_) AllReadyH.nil
          have y0 := bX.at 0 _ rfl
          have y1 := bX.at 1 _ rfl
          have f0 := bX.soft 0
          have f1 := bX.soft 1
          have lX := bX.lt
          have gX : wr.heap.size ≤ wD.heap.size := hD0
          go_simp
          refine hK.out _ _ ((hHeld.setCell (by simp; omega) _).setCell (by simp; omega) _) (fun hHeld => ?_)
          clear hK K
          try simp only [Act.put, List.setIfInBounds_toArray, List.set_cons_zero, List.set_cons_succ]
          refine wpAnyH_done (by kernel_rfl) ?_ _
          refine NoPanic.normal ?_
          have bV := (bX.set 0 (.int .i64 0)).set 1 (.slice a6 v.length d6)
          simp only [List.setIfInBounds_toArray, List.set_cons_zero, List.set_cons_succ] at bV
          have HV6 := hide (l6.ext (((Ext.refl (fun q => q = wD.heap.size) w6).setCell ⟨wD.heap.size, 0, none⟩ (.int .i64 0) rfl).setCell ⟨wD.heap.size, 1, none⟩ (.slice a6 v.length d6) rfl) (fun q h1 h2 h3 => by omega)).reads
          have HBV := hide bV
          have HBE := hide hHeld
          generalize (w6.setCell ⟨wD.heap.size, 0, none⟩ (.int .i64 0)).setCell ⟨wD.heap.size, 1, none⟩ (.slice a6 v.length d6) = wE at *
          have z0 := bV.at 0 _ rfl
          have z1 := bV.at 1 _ rfl
          obtain ⟨y0, y1, y2, y3, y4, y5, y6⟩ := unhide KEEP _ (unhide HBE)
          clear hHeld bX f0 f1 lX gX hbX sX bV l6 hz6 hbw
          go_wp2_with fail
          clear z0 z1 y0 y1 y2 y3 y4 y5 y6
          refine wp_region_noPanic ?_
          refine wp_region_held_drew (S := fun w' => Below wE.heap.size wE w') (by kernel_rfl) (Below.refl _ _).drew (fun hHeld => ?_)
          generalize wE.drew = wG at hHeld ⊢
          refine wpAnyH_take (i := 0) (oi := { dst := some 66, op := Go.Op.fieldAddr 41 (Go.Operand.tmp 12) 0, type := 0, pos := "laws.go:305", after := #[], guard := none }) (v := ?vs00_1) rfl (by kernel_rfl) (by kernel_rfl) (by kernel_rfl) (fun _ _ _ h => h) (Or.inl ⟨by rfl, ?hs00_1⟩) hHeld ?rs00_1
          case hs00_1 =>
            intro wS hSw
            (try dsimp only at hSw)
            go_simp
            try with_reducible rfl
          case rs00_1 =>
          simp only [Act.put, List.setIfInBounds_toArray, List.set_cons_zero, List.set_cons_succ]
          refine wpAnyH_take (i := 1) (oi := { dst := some 67, op := Go.Op.load 2 (Go.Operand.tmp 66), type := 2, pos := "laws.go:305", after := #[{ on := 0, ground := Go.Ground.data }], guard := none }) (v := ?vs01_2) rfl (by kernel_rfl) (by kernel_rfl) (by kernel_rfl) (fun _ _ _ h => h) (Or.inl ⟨by rfl, ?hs01_2⟩) hHeld ?rs01_2
          case hs01_2 =>
            intro wS hSw
            have m0 := ((unhide HBV).keep hSw).at 0 _ rfl
            clear hSw
            (try dsimp only at hSw)
            go_simp
            try with_reducible rfl
          case rs01_2 =>
          simp only [Act.put, List.setIfInBounds_toArray, List.set_cons_zero, List.set_cons_succ]
          refine wpAnyH_take (i := 2) (oi := { dst := some 68, op := Go.Op.binOp Go.BinOp.neq 2 (Go.Operand.tmp 67) (Go.Operand.const (Go.Value.int Go.IntKind.i64 0)) 2, type := 4, pos := "laws.go:305", after := #[{ on := 1, ground := Go.Ground.data }], guard := none }) (v := ?vs02_3) rfl (by kernel_rfl) (by kernel_rfl) (by kernel_rfl) (fun _ _ _ h => h) (Or.inl ⟨by rfl, ?hs02_3⟩) hHeld ?rs02_3
          case hs02_3 =>
            intro wS hSw
            (try dsimp only at hSw)
            go_simp
            try with_reducible rfl
          case rs02_3 =>
          simp only [Act.put, List.setIfInBounds_toArray, List.set_cons_zero, List.set_cons_succ]
          refine wpAnyH_take (i := 3) (oi := { dst := some 69, op := Go.Op.move (Go.Operand.tmp 68), type := 4, pos := "laws.go:305", after := #[{ on := 2, ground := Go.Ground.data }], guard := none }) (v := ?vs03_4) rfl (by kernel_rfl) (by kernel_rfl) (by kernel_rfl) (fun _ _ _ h => h) (Or.inl ⟨by rfl, ?hs03_4⟩) hHeld ?rs03_4
          case hs03_4 =>
            intro wS hSw
            (try dsimp only at hSw)
            go_simp
            try with_reducible rfl
          case rs03_4 =>
          simp only [Act.put, List.setIfInBounds_toArray, List.set_cons_zero, List.set_cons_succ]
          refine wpAnyH_take (i := 4) (oi := { dst := some 70, op := Go.Op.move (Go.Operand.tmp 4), type := 28, pos := "laws.go:305", after := #[{ on := 3, ground := Go.Ground.guard }], guard := some (3, false) }) (v := ?vs04_5) rfl (by kernel_rfl) (by kernel_rfl) (by kernel_rfl) (fun _ _ _ h => h) (Or.inl ⟨by rfl, ?hs04_5⟩) hHeld ?rs04_5
          case hs04_5 =>
            intro wS hSw
            (try dsimp only at hSw)
            go_simp
            try with_reducible rfl
          case rs04_5 =>
          simp only [Act.put, List.setIfInBounds_toArray, List.set_cons_zero, List.set_cons_succ]
          refine wpAnyH_take (i := 5) (oi := { dst := some 71, op := Go.Op.fieldAddr 41 (Go.Operand.tmp 12) 1, type := 0, pos := "laws.go:305", after := #[{ on := 3, ground := Go.Ground.guard }], guard := some (3, false) }) (v := ?vs05_6) rfl (by kernel_rfl) (by kernel_rfl) (by kernel_rfl) (fun _ _ _ h => h) (Or.inl ⟨by rfl, ?hs05_6⟩) hHeld ?rs05_6
          case hs05_6 =>
            intro wS hSw
            (try dsimp only at hSw)
            go_simp
            try with_reducible rfl
          case rs05_6 =>
          simp only [Act.put, List.setIfInBounds_toArray, List.set_cons_zero, List.set_cons_succ]
          refine wpAnyH_take (i := 6) (oi := { dst := some 72, op := Go.Op.load 28 (Go.Operand.tmp 71), type := 28, pos := "laws.go:305", after := #[{ on := 5, ground := Go.Ground.data }, { on := 3, ground := Go.Ground.guard }], guard := some (3, false) }) (v := ?vs06_7) rfl (by kernel_rfl) (by kernel_rfl) (by kernel_rfl) (fun _ _ _ h => h) (Or.inl ⟨by rfl, ?hs06_7⟩) hHeld ?rs06_7
          case hs06_7 =>
            intro wS hSw
            have m0 := ((unhide HBV).keep hSw).at 1 _ rfl
            clear hSw
            (try dsimp only at hSw)
            go_simp
            try with_reducible rfl
          case rs06_7 =>
          simp only [Act.put, List.setIfInBounds_toArray, List.set_cons_zero, List.set_cons_succ]
          refine wpAnyH_take (i := 9) (oi := { dst := some 75, op := Go.Op.fieldAddr 33 (Go.Operand.tmp 7) 1, type := 0, pos := "laws.go:305", after := #[{ on := 3, ground := Go.Ground.guard }], guard := some (3, false) }) (v := ?vs09_8) rfl (by kernel_rfl) (by kernel_rfl) (by kernel_rfl) (fun _ _ _ h => h) (Or.inl ⟨by rfl, ?hs09_8⟩) hHeld ?rs09_8
          case hs09_8 =>
            intro wS hSw
            (try dsimp only at hSw)
            go_simp
            try with_reducible rfl
          case rs09_8 =>
          simp only [Act.put, List.setIfInBounds_toArray, List.set_cons_zero, List.set_cons_succ]
          refine wpAnyH_take (i := 10) (oi := { dst := some 76, op := Go.Op.load 31 (Go.Operand.tmp 75), type := 31, pos := "laws.go:305", after := #[{ on := 9, ground := Go.Ground.data }, { on := 3, ground := Go.Ground.guard }], guard := some (3, false) }) (v := ?vs010_9) rfl (by kernel_rfl) (by kernel_rfl) (by kernel_rfl) (fun _ _ _ h => h) (Or.inl ⟨by rfl, ?hs010_9⟩) hHeld ?rs010_9
          case hs010_9 =>
            intro wS hSw
            obtain ⟨y0, y1, y2, y3, y4, y5, y6⟩ := unhide KEEP _ ((unhide HBE).trans (hSw.mono (unhide HBE).size))
            clear hSw
            (try dsimp only at hSw)
            go_simp
            try with_reducible rfl
          case rs010_9 =>
          simp only [Act.put, List.setIfInBounds_toArray, List.set_cons_zero, List.set_cons_succ]
          refine wpAnyH_take (i := 11) (oi := { dst := some 77, op := Go.Op.move (Go.Operand.tmp 11), type := 3, pos := "laws.go:305", after := #[{ on := 3, ground := Go.Ground.guard }], guard := some (3, false) }) (v := ?vs011_10) rfl (by kernel_rfl) (by kernel_rfl) (by kernel_rfl) (fun _ _ _ h => h) (Or.inl ⟨by rfl, ?hs011_10⟩) hHeld ?rs011_10
          case hs011_10 =>
            intro wS hSw
            (try dsimp only at hSw)
            go_simp
            try with_reducible rfl
          case rs011_10 =>
          simp only [Act.put, List.setIfInBounds_toArray, List.set_cons_zero, List.set_cons_succ]
          refine wpAnyH_take (i := 12) (oi := { dst := some 78, op := Go.Op.indexAddr 31 (Go.Operand.tmp 76) (Go.Operand.tmp 77), type := 0, pos := "laws.go:305", after := #[{ on := 10, ground := Go.Ground.data }, { on := 11, ground := Go.Ground.data }, { on := 3, ground := Go.Ground.guard }], guard := some (3, false) }) (v := ?vs012_11) rfl (by kernel_rfl) (by kernel_rfl) (by kernel_rfl) (fun _ _ _ h => h) (Or.inl ⟨by rfl, ?hs012_11⟩) hHeld ?rs012_11
          case hs012_11 =>
            intro wS hSw
            (try dsimp only at hSw)
            go_simp
            try with_reducible rfl
          case rs012_11 =>
          simp only [Act.put, List.setIfInBounds_toArray, List.set_cons_zero, List.set_cons_succ]
          refine wpAnyH_take (i := 13) (oi := { dst := some 79, op := Go.Op.fieldAddr 44 (Go.Operand.tmp 78) 1, type := 0, pos := "laws.go:305", after := #[{ on := 12, ground := Go.Ground.data }, { on := 3, ground := Go.Ground.guard }], guard := some (3, false) }) (v := ?vs013_12) rfl (by kernel_rfl) (by kernel_rfl) (by kernel_rfl) (fun _ _ _ h => h) (Or.inl ⟨by rfl, ?hs013_12⟩) hHeld ?rs013_12
          case hs013_12 =>
            intro wS hSw
            (try dsimp only at hSw)
            go_simp
            try with_reducible rfl
          case rs013_12 =>
          simp only [Act.put, List.setIfInBounds_toArray, List.set_cons_zero, List.set_cons_succ]
          refine wpAnyH_take (i := 14) (oi := { dst := some 80, op := Go.Op.load 2 (Go.Operand.tmp 79), type := 2, pos := "laws.go:305", after := #[{ on := 13, ground := Go.Ground.data }, { on := 3, ground := Go.Ground.guard }], guard := some (3, false) }) (v := ?vs014_13) rfl (by kernel_rfl) (by kernel_rfl) (by kernel_rfl) (fun _ _ _ h => h) (Or.inl ⟨by rfl, ?hs014_13⟩) hHeld ?rs014_13
          case hs014_13 =>
            intro wS hSw
            have hWz := (unhide HBE).trans (hSw.mono (unhide HBE).size)
            have np0 := (hWz.cell (p := ⟨b4, o4 + k * 2, none⟩) hbl4).trans p0
            have np1 := (hWz.cell (p := ⟨b4, o4 + k * 2 + 1, none⟩) hbl4).trans p1
            clear hSw hWz
            (try dsimp only at hSw)
            go_simp
            try with_reducible rfl
          case rs014_13 =>
          simp only [Act.put, List.setIfInBounds_toArray, List.set_cons_zero, List.set_cons_succ]
          refine wpAnyH_ready (rs := [7]) (by kernel_rfl) (by simp) ?_
          refine AllReadyH.cons (o := { dst := some 73, op := Go.Op.call { callee := Go.Callee.value (Go.Operand.func 14), args := #[Go.Operand.tmp 70, Go.Operand.tmp 72], argTypes := #[28, 28] }, type := 46, pos := "laws.go:305", after := #[{ on := 4, ground := Go.Ground.data }, { on := 6, ground := Go.Ground.data }, { on := 3, ground := Go.Ground.chain }, { on := 3, ground := Go.Ground.guard }], guard := some (3, false) }) rfl (fun K hK => ?_) AllReadyH.nil
          go_simp
          go_at_call 14
          refine (unhide LS _ a6 d6 ((unhide HBE).trans (hHeld.mono (unhide HBE).size)) ((unhide HV6).later hHeld)).mono ?_
          rintro e v1 ⟨rfl, hbw⟩
          try go_wp2_with fail
          refine hK.out _ _ (hHeld.trans (hbw.mono hHeld.size)) (fun hHeld => ?_)
          clear hK K
          try simp only [Act.put, List.setIfInBounds_toArray, List.set_cons_zero, List.set_cons_succ]
          refine wpAnyH_take (i := 8) (oi := { dst := some 74, op := Go.Op.field 46 (Go.Operand.tmp 73) 1, type := 2, pos := "laws.go:305", after := #[{ on := 7, ground := Go.Ground.data }, { on := 3, ground := Go.Ground.guard }], guard := some (3, false) }) (v := ?vs08_14) rfl (by kernel_rfl) (by kernel_rfl) (by kernel_rfl) (fun _ _ _ h => h) (Or.inl ⟨by rfl, ?hs08_14⟩) hHeld ?rs08_14
          case hs08_14 =>
            intro wS hSw
            have yf := hfi
            clear hSw
            (try dsimp only at hSw)
            go_simp
            try with_reducible rfl
          case rs08_14 =>
          simp only [Act.put, List.setIfInBounds_toArray, List.set_cons_zero, List.set_cons_succ]
          refine wpAnyH_take (i := 15) (oi := { dst := some 81, op := Go.Op.binOp Go.BinOp.neq 2 (Go.Operand.tmp 74) (Go.Operand.tmp 80) 2, type := 4, pos := "laws.go:305", after := #[{ on := 8, ground := Go.Ground.data }, { on := 14, ground := Go.Ground.data }, { on := 3, ground := Go.Ground.guard }], guard := some (3, false) }) (v := ?vs015_15) rfl (by kernel_rfl) (by kernel_rfl) (by kernel_rfl) (fun _ _ _ h => h) (Or.inl ⟨by rfl, ?hs015_15⟩) hHeld ?rs015_15
          case hs015_15 =>
            intro wS hSw
            (try dsimp only at hSw)
            go_simp
            try with_reducible rfl
          case rs015_15 =>
          simp only [Act.put, List.setIfInBounds_toArray, List.set_cons_zero, List.set_cons_succ]
          refine wpAnyH_take (i := 16) (oi := { dst := some 82, op := Go.Op.pick (Go.Operand.tmp 69) (Go.Operand.const (Go.Value.bool true)) (Go.Operand.tmp 81), type := 4, pos := "laws.go:305", after := #[{ on := 3, ground := Go.Ground.data }, { on := 15, ground := Go.Ground.data }], guard := none }) (v := ?vs016_16) rfl (by kernel_rfl) (by kernel_rfl) (by kernel_rfl) (fun _ _ _ h => h) (Or.inl ⟨by rfl, ?hs016_16⟩) hHeld ?rs016_16
          case hs016_16 =>
            intro wS hSw
            (try dsimp only at hSw)
            go_simp
            try with_reducible rfl
          case rs016_16 =>
          simp only [Act.put, List.setIfInBounds_toArray, List.set_cons_zero, List.set_cons_succ]
          refine wpAnyH_take (i := 17) (oi := { dst := some 83, op := Go.Op.move (Go.Operand.tmp 82), type := 4, pos := "laws.go:305", after := #[{ on := 16, ground := Go.Ground.data }, { on := 7, ground := Go.Ground.chain }], guard := none }) (v := ?vs017_17) rfl (by kernel_rfl) (by kernel_rfl) (by kernel_rfl) (fun _ _ _ h => h) (Or.inl ⟨by rfl, ?hs017_17⟩) hHeld ?rs017_17
          case hs017_17 =>
            intro wS hSw
            (try dsimp only at hSw)
            go_simp
            try with_reducible rfl
          case rs017_17 =>
          simp only [Act.put, List.setIfInBounds_toArray, List.set_cons_zero, List.set_cons_succ]
          refine wpAnyH_take (i := 18) (oi := { dst := some 84, op := Go.Op.move (Go.Operand.tmp 11), type := 3, pos := "laws.go:305", after := #[{ on := 17, ground := Go.Ground.guard }], guard := some (17, false) }) (v := ?vs018_18) rfl (by kernel_rfl) (by kernel_rfl) (by kernel_rfl) (fun _ _ _ h => h) (Or.inl ⟨by rfl, ?hs018_18⟩) hHeld ?rs018_18
          case hs018_18 =>
            intro wS hSw
            (try dsimp only at hSw)
            go_simp
            try with_reducible rfl
          case rs018_18 =>
          simp only [Act.put, List.setIfInBounds_toArray, List.set_cons_zero, List.set_cons_succ]
          refine wpAnyH_take (i := 19) (oi := { dst := some 85, op := Go.Op.fieldAddr 33 (Go.Operand.tmp 9) 1, type := 0, pos := "laws.go:305", after := #[{ on := 17, ground := Go.Ground.guard }], guard := some (17, false) }) (v := ?vs019_19) rfl (by kernel_rfl) (by kernel_rfl) (by kernel_rfl) (fun _ _ _ h => h) (Or.inl ⟨by rfl, ?hs019_19⟩) hHeld ?rs019_19
          case hs019_19 =>
            intro wS hSw
            (try dsimp only at hSw)
            go_simp
            try with_reducible rfl
          case rs019_19 =>
          simp only [Act.put, List.setIfInBounds_toArray, List.set_cons_zero, List.set_cons_succ]
          refine wpAnyH_take (i := 20) (oi := { dst := some 86, op := Go.Op.load 31 (Go.Operand.tmp 85), type := 31, pos := "laws.go:305", after := #[{ on := 19, ground := Go.Ground.data }, { on := 17, ground := Go.Ground.guard }], guard := some (17, false) }) (v := ?vs020_20) rfl (by kernel_rfl) (by kernel_rfl) (by kernel_rfl) (fun _ _ _ h => h) (Or.inl ⟨by rfl, ?hs020_20⟩) hHeld ?rs020_20
          case hs020_20 =>
            intro wS hSw
            obtain ⟨y0, y1, y2, y3, y4, y5, y6⟩ := unhide KEEP _ ((unhide HBE).trans (hSw.mono (unhide HBE).size))
            clear hSw
            (try dsimp only at hSw)
            go_simp
            try with_reducible rfl
          case rs020_20 =>
          simp only [Act.put, List.setIfInBounds_toArray, List.set_cons_zero, List.set_cons_succ]
          refine wpAnyH_take (i := 21) (oi := { dst := some 87, op := Go.Op.call { callee := Go.Callee.builtin Go.Builtin.len, args := #[Go.Operand.tmp 86], argTypes := #[31] }, type := 3, pos := "laws.go:305", after := #[{ on := 20, ground := Go.Ground.data }, { on := 17, ground := Go.Ground.guard }], guard := some (17, false) }) (v := ?vs021_21) rfl (by kernel_rfl) (by kernel_rfl) (by kernel_rfl) (fun _ _ _ h => h) (Or.inl ⟨by rfl, ?hs021_21⟩) hHeld ?rs021_21
          case hs021_21 =>
            intro wS hSw
            (try dsimp only at hSw)
            go_simp
            try with_reducible rfl
          case rs021_21 =>
          simp only [Act.put, List.setIfInBounds_toArray, List.set_cons_zero, List.set_cons_succ]
          refine wpAnyH_take (i := 22) (oi := { dst := some 88, op := Go.Op.binOp Go.BinOp.lss 3 (Go.Operand.tmp 84) (Go.Operand.tmp 87) 3, type := 4, pos := "laws.go:305", after := #[{ on := 18, ground := Go.Ground.data }, { on := 21, ground := Go.Ground.data }, { on := 17, ground := Go.Ground.guard }], guard := some (17, false) }) (v := ?vs022_22) rfl (by kernel_rfl) (by kernel_rfl) (by kernel_rfl) (fun _ _ _ h => h) (Or.inl ⟨by rfl, ?hs022_22⟩) hHeld ?rs022_22
          case hs022_22 =>
            intro wS hSw
            (try dsimp only at hSw)
            go_simp
            try with_reducible rfl
          case rs022_22 =>
          simp only [Act.put, List.setIfInBounds_toArray, List.set_cons_zero, List.set_cons_succ]
          refine wpAnyH_take (i := 23) (oi := { dst := some 89, op := Go.Op.move (Go.Operand.tmp 88), type := 4, pos := "laws.go:305", after := #[{ on := 22, ground := Go.Ground.data }, { on := 17, ground := Go.Ground.chain }, { on := 17, ground := Go.Ground.guard }], guard := some (17, false) }) (v := ?vs023_23) rfl (by kernel_rfl) (by kernel_rfl) (by kernel_rfl) (fun _ _ _ h => h) (Or.inl ⟨by rfl, ?hs023_23⟩) hHeld ?rs023_23
          case hs023_23 =>
            intro wS hSw
            (try dsimp only at hSw)
            go_simp
            try with_reducible rfl
          case rs023_23 =>
          simp only [Act.put, List.setIfInBounds_toArray, List.set_cons_zero, List.set_cons_succ]
          refine wpAnyH_take (i := 24) (oi := { dst := some 90, op := Go.Op.fieldAddr 33 (Go.Operand.tmp 7) 1, type := 0, pos := "laws.go:305", after := #[{ on := 23, ground := Go.Ground.guard }], guard := some (23, true) }) (v := ?vs024_24) rfl (by kernel_rfl) (by kernel_rfl) (by kernel_rfl) (fun _ _ _ h => h) (Or.inl ⟨by rfl, ?hs024_24⟩) hHeld ?rs024_24
          case hs024_24 =>
            intro wS hSw
            (try dsimp only at hSw)
            go_simp
            try with_reducible rfl
          case rs024_24 =>
          simp only [Act.put, List.setIfInBounds_toArray, List.set_cons_zero, List.set_cons_succ]
          refine wpAnyH_take (i := 25) (oi := { dst := some 91, op := Go.Op.load 31 (Go.Operand.tmp 90), type := 31, pos := "laws.go:305", after := #[{ on := 24, ground := Go.Ground.data }, { on := 23, ground := Go.Ground.guard }], guard := some (23, true) }) (v := ?vs025_25) rfl (by kernel_rfl) (by kernel_rfl) (by kernel_rfl) (fun _ _ _ h => h) (Or.inl ⟨by rfl, ?hs025_25⟩) hHeld ?rs025_25
          case hs025_25 =>
            intro wS hSw
            obtain ⟨y0, y1, y2, y3, y4, y5, y6⟩ := unhide KEEP _ ((unhide HBE).trans (hSw.mono (unhide HBE).size))
            clear hSw
            (try dsimp only at hSw)
            go_simp
            try with_reducible rfl
          case rs025_25 =>
          simp only [Act.put, List.setIfInBounds_toArray, List.set_cons_zero, List.set_cons_succ]
          refine wpAnyH_take (i := 26) (oi := { dst := some 92, op := Go.Op.move (Go.Operand.tmp 11), type := 3, pos := "laws.go:305", after := #[{ on := 23, ground := Go.Ground.guard }], guard := some (23, true) }) (v := ?vs026_26) rfl (by kernel_rfl) (by kernel_rfl) (by kernel_rfl) (fun _ _ _ h => h) (Or.inl ⟨by rfl, ?hs026_26⟩) hHeld ?rs026_26
          case hs026_26 =>
            intro wS hSw
            (try dsimp only at hSw)
            go_simp
            try with_reducible rfl
          case rs026_26 =>
          simp only [Act.put, List.setIfInBounds_toArray, List.set_cons_zero, List.set_cons_succ]
          refine wpAnyH_take (i := 27) (oi := { dst := some 93, op := Go.Op.indexAddr 31 (Go.Operand.tmp 91) (Go.Operand.tmp 92), type := 0, pos := "laws.go:305", after := #[{ on := 25, ground := Go.Ground.data }, { on := 26, ground := Go.Ground.data }, { on := 23, ground := Go.Ground.guard }], guard := some (23, true) }) (v := ?vs027_27) rfl (by kernel_rfl) (by kernel_rfl) (by kernel_rfl) (fun _ _ _ h => h) (Or.inl ⟨by rfl, ?hs027_27⟩) hHeld ?rs027_27
          case hs027_27 =>
            intro wS hSw
            (try dsimp only at hSw)
            go_simp
            try with_reducible rfl
          case rs027_27 =>
          simp only [Act.put, List.setIfInBounds_toArray, List.set_cons_zero, List.set_cons_succ]
          refine wpAnyH_take (i := 28) (oi := { dst := some 94, op := Go.Op.load 44 (Go.Operand.tmp 93), type := 44, pos := "laws.go:305", after := #[{ on := 27, ground := Go.Ground.data }, { on := 23, ground := Go.Ground.guard }], guard := some (23, true) }) (v := ?vs028_28) rfl (by kernel_rfl) (by kernel_rfl) (by kernel_rfl) (fun _ _ _ h => h) (Or.inl ⟨by rfl, ?hs028_28⟩) hHeld ?rs028_28
          case hs028_28 =>
            intro wS hSw
            have hWz := (unhide HBE).trans (hSw.mono (unhide HBE).size)
            have np0 := (hWz.cell (p := ⟨b4, o4 + k * 2, none⟩) hbl4).trans p0
            have np1 := (hWz.cell (p := ⟨b4, o4 + k * 2 + 1, none⟩) hbl4).trans p1
            clear hSw hWz
            (try dsimp only at hSw)
            go_simp
            try with_reducible rfl
          case rs028_28 =>
          simp only [Act.put, List.setIfInBounds_toArray, List.set_cons_zero, List.set_cons_succ]
          refine wpAnyH_take (i := 29) (oi := { dst := some 95, op := Go.Op.fieldAddr 33 (Go.Operand.tmp 9) 1, type := 0, pos := "laws.go:305", after := #[{ on := 23, ground := Go.Ground.guard }], guard := some (23, true) }) (v := ?vs029_29) rfl (by kernel_rfl) (by kernel_rfl) (by kernel_rfl) (fun _ _ _ h => h) (Or.inl ⟨by rfl, ?hs029_29⟩) hHeld ?rs029_29
          case hs029_29 =>
            intro wS hSw
            (try dsimp only at hSw)
            go_simp
            try with_reducible rfl
          case rs029_29 =>
          simp only [Act.put, List.setIfInBounds_toArray, List.set_cons_zero, List.set_cons_succ]
          refine wpAnyH_take (i := 30) (oi := { dst := some 96, op := Go.Op.load 31 (Go.Operand.tmp 95), type := 31, pos := "laws.go:305", after := #[{ on := 29, ground := Go.Ground.data }, { on := 23, ground := Go.Ground.guard }], guard := some (23, true) }) (v := ?vs030_30) rfl (by kernel_rfl) (by kernel_rfl) (by kernel_rfl) (fun _ _ _ h => h) (Or.inl ⟨by rfl, ?hs030_30⟩) hHeld ?rs030_30
          case hs030_30 =>
            intro wS hSw
            obtain ⟨y0, y1, y2, y3, y4, y5, y6⟩ := unhide KEEP _ ((unhide HBE).trans (hSw.mono (unhide HBE).size))
            clear hSw
            (try dsimp only at hSw)
            go_simp
            try with_reducible rfl
          case rs030_30 =>
          simp only [Act.put, List.setIfInBounds_toArray, List.set_cons_zero, List.set_cons_succ]
          refine wpAnyH_take (i := 31) (oi := { dst := some 97, op := Go.Op.move (Go.Operand.tmp 11), type := 3, pos := "laws.go:305", after := #[{ on := 23, ground := Go.Ground.guard }], guard := some (23, true) }) (v := ?vs031_31) rfl (by kernel_rfl) (by kernel_rfl) (by kernel_rfl) (fun _ _ _ h => h) (Or.inl ⟨by rfl, ?hs031_31⟩) hHeld ?rs031_31
          case hs031_31 =>
            intro wS hSw
            (try dsimp only at hSw)
            go_simp
            try with_reducible rfl
          case rs031_31 =>
          simp only [Act.put, List.setIfInBounds_toArray, List.set_cons_zero, List.set_cons_succ]
          refine wpAnyH_take (i := 32) (oi := { dst := some 98, op := Go.Op.indexAddr 31 (Go.Operand.tmp 96) (Go.Operand.tmp 97), type := 0, pos := "laws.go:305", after := #[{ on := 30, ground := Go.Ground.data }, { on := 31, ground := Go.Ground.data }, { on := 23, ground := Go.Ground.guard }], guard := some (23, true) }) (v := ?vs032_32) rfl (by kernel_rfl) (by kernel_rfl) (by kernel_rfl) (fun _ _ _ h => h) (Or.inl ⟨by rfl, ?hs032_32⟩) hHeld ?rs032_32
          case hs032_32 =>
            intro wS hSw
            (try dsimp only at hSw)
            go_simp
            try with_reducible rfl
          case rs032_32 =>
          simp only [Act.put, List.setIfInBounds_toArray, List.set_cons_zero, List.set_cons_succ]
          refine wpAnyH_take (i := 33) (oi := { dst := some 99, op := Go.Op.load 44 (Go.Operand.tmp 98), type := 44, pos := "laws.go:305", after := #[{ on := 32, ground := Go.Ground.data }, { on := 23, ground := Go.Ground.guard }], guard := some (23, true) }) (v := ?vs033_33) rfl (by kernel_rfl) (by kernel_rfl) (by kernel_rfl) (fun _ _ _ h => h) (Or.inl ⟨by rfl, ?hs033_33⟩) hHeld ?rs033_33
          case hs033_33 =>
            intro wS hSw
            have hWz := (unhide HBE).trans (hSw.mono (unhide HBE).size)
            have nq0 := (hWz.cell (p := ⟨b5, o5 + k * 2, none⟩) hbl5).trans q0
            have nq1 := (hWz.cell (p := ⟨b5, o5 + k * 2 + 1, none⟩) hbl5).trans q1
            clear hSw hWz
            (try dsimp only at hSw)
            go_simp
            try with_reducible rfl
          case rs033_33 =>
          simp only [Act.put, List.setIfInBounds_toArray, List.set_cons_zero, List.set_cons_succ]
          refine wpAnyH_ready (rs := [34]) (by kernel_rfl) (by simp) ?_
          refine AllReadyH.cons (o := { dst := some 100, op := Go.Op.call { callee := Go.Callee.value (Go.Operand.func 15), args := #[Go.Operand.tmp 94, Go.Operand.tmp 99], argTypes := #[44, 44] }, type := 4, pos := "laws.go:305", after := #[{ on := 28, ground := Go.Ground.data }, { on := 33, ground := Go.Ground.data }, { on := 23, ground := Go.Ground.chain }, { on := 23, ground := Go.Ground.guard }], guard := some (23, true) }) rfl (fun K hK => ?_) AllReadyH.nil
          go_simp
          go_at_call 15
          refine (unhide LB _).mono ?_
          rintro e v2 ⟨rfl, hbv⟩
          try go_wp2_with fail
          refine hK.out _ _ (hHeld.trans (hbv.mono hHeld.size)) (fun hHeld => ?_)
          clear hK K
          try simp only [Act.put, List.setIfInBounds_toArray, List.set_cons_zero, List.set_cons_succ]
          refine wpAnyH_take (i := 35) (oi := { dst := some 101, op := Go.Op.pick (Go.Operand.tmp 89) (Go.Operand.tmp 100) (Go.Operand.const (Go.Value.bool false)), type := 4, pos := "laws.go:305", after := #[{ on := 23, ground := Go.Ground.data }, { on := 34, ground := Go.Ground.data }, { on := 17, ground := Go.Ground.guard }], guard := some (17, false) }) (v := ?vs035_34) rfl (by kernel_rfl) (by kernel_rfl) (by kernel_rfl) (fun _ _ _ h => h) (Or.inl ⟨by rfl, ?hs035_34⟩) hHeld ?rs035_34
          case hs035_34 =>
            intro wS hSw
            (try dsimp only at hSw)
            go_simp
            try with_reducible rfl
          case rs035_34 =>
          simp only [Act.put, List.setIfInBounds_toArray, List.set_cons_zero, List.set_cons_succ]
          refine wpAnyH_take (i := 36) (oi := { dst := some 102, op := Go.Op.pick (Go.Operand.tmp 83) (Go.Operand.const (Go.Value.bool true)) (Go.Operand.tmp 101), type := 4, pos := "laws.go:305", after := #[{ on := 17, ground := Go.Ground.data }, { on := 35, ground := Go.Ground.data }], guard := none }) (v := ?vs036_35) rfl (by kernel_rfl) (by kernel_rfl) (by kernel_rfl) (fun _ _ _ h => h) (Or.inl ⟨by rfl, ?hs036_35⟩) hHeld ?rs036_35
          case hs036_35 =>
            intro wS hSw
            (try dsimp only at hSw)
            go_simp
            try with_reducible rfl
          case rs036_35 =>
          simp only [Act.put, List.setIfInBounds_toArray, List.set_cons_zero, List.set_cons_succ]
          refine wpAnyH_done (by kernel_rfl) ?_ _
          refine NoPanic.normal ?_
          have HB9 := hide ((unhide HBE).trans (hHeld.mono (unhide HBE).size))
          clear hHeld p0 p1 q0 q1
          go_wp2_with fail
          go_roundw
          case rel => exact ⟨k + 1, by omega, by go_num, unhide HB9⟩
          case measure => simp [intOf]; omega
      · obtain rfl : k = A.length := by omega
        have LF : Hid (∀ W, Below wz.heap.size wz W → Calls Tryz.prog 16 #[.slice a5 B.length d5, .slice a4 B.length d4] W fun e w' => e = .returned (.bool true) ∧ Below W.heap.size W w') := fun W hW => by
          have h1 := hits_reads ((unhide HR5).later hW)
          have h2 := hits_reads ((unhide HR4).later hW)
          exact lwHitsC _ _ _ W h1 h2 (by rw [List.length_map]; omega)
        have LH : Hid (∀ W, Below wz.heap.size wz W → Calls Tryz.prog 17 #[.slice a1 A.length d1] W fun e w' => e = .returned (.int .i64 0) ∧ Below W.heap.size W w') := fun W hW => by
          have h1 := implHitsFaultC _ _ W (hits_reads ((unhide HR2).later hW)) (by rw [List.length_map]; omega)
          rwa [unhide HFR] at h1
        have LM : Hid (∀ W, Below wz.heap.size wz W → Calls Tryz.prog 10 #[.agg #[.slice a8 x.centers.length c8, .slice a9 x.lists.length c9], .slice av vec.length dv, .int .i64 kk, .int .i64 n] W fun e w' => ∃ (b1 : Option Addr) (k1 : Nat), e = .returned (.agg #[.int .i64 0, .slice b1 A.length k1]) ∧ (Lay.sl Lay.tHit).Reads w' [.slice b1 A.length k1] A ∧ Below W.heap.size W w') := fun W hW => by
          refine (specSearchIvf _ x _ vec kk n W ((unhide HRX).later hW) ((unhide HRV).later hW)).mono ?_
          rintro e w' ⟨cs, rfl, O, -, hb⟩
          rw [e2] at O
          obtain ⟨b1, k1, rfl, r1⟩ := open_HitsResult O
          exact ⟨b1, k1, rfl, r1, hb⟩
        have LE : Hid (∀ W (b1 : Option Addr) (k1 : Nat), Below wz.heap.size wz W → (Lay.sl Lay.tHit).Reads W [.slice b1 A.length k1] A → Calls Tryz.prog 16 #[.slice a1 A.length d1, .slice b1 A.length k1] W fun e w' => e = .returned (.bool true) ∧ Below W.heap.size W w') := fun W b1 k1 hW h2 => by
          exact lwHitsC _ _ _ W (hits_reads ((unhide HR2).later hW)) (hits_reads h2) (by rw [List.length_map]; omega)
        have hfl := fun a k => fieldHI1 0 a A.length k
        have g5 : decide ((A.length : Int) ≤ (B.length : Int)) = true := decide_eq_true (by omega)
        clear HR2 HR3 HR4 HR5 HRX HRV HFR HEA HVQ e2
        go_wp2_with fail
        clear y0 y1 y2 y3 y4 y5 y6
        refine wp_region_noPanic ?_
        refine wp_region_held_drew (S := fun w' => Below wz.heap.size wz w') (by kernel_rfl) (unhide HBr).drew (fun hHeld => ?_)
        generalize wr.drew = wD at hHeld ⊢
        refine wpAnyH_take (i := 0) (oi := { dst := some 103, op := Go.Op.fieldAddr 37 (Go.Operand.tmp 8) 0, type := 0, pos := "laws.go:309", after := #[], guard := none }) (v := ?vm0_1) rfl (by kernel_rfl) (by kernel_rfl) (by kernel_rfl) (fun _ _ _ h => h) (Or.inl ⟨by rfl, ?hm0_1⟩) hHeld ?rm0_1
        case hm0_1 =>
          intro wS hSw
          (try dsimp only at hSw)
          go_simp
          try with_reducible rfl
        case rm0_1 =>
        simp only [Act.put, List.setIfInBounds_toArray, List.set_cons_zero, List.set_cons_succ]
        refine wpAnyH_take (i := 1) (oi := { dst := some 104, op := Go.Op.load 2 (Go.Operand.tmp 103), type := 2, pos := "laws.go:309", after := #[{ on := 0, ground := Go.Ground.data }], guard := none }) (v := ?vm1_2) rfl (by kernel_rfl) (by kernel_rfl) (by kernel_rfl) (fun _ _ _ h => h) (Or.inl ⟨by rfl, ?hm1_2⟩) hHeld ?rm1_2
        case hm1_2 =>
          intro wS hSw
          obtain ⟨y0, y1, y2, y3, y4, y5, y6⟩ := unhide KEEP _ hSw
          clear hSw
          (try dsimp only at hSw)
          go_simp
          try with_reducible rfl
        case rm1_2 =>
        simp only [Act.put, List.setIfInBounds_toArray, List.set_cons_zero, List.set_cons_succ]
        refine wpAnyH_take (i := 2) (oi := { dst := some 105, op := Go.Op.binOp Go.BinOp.eql 2 (Go.Operand.tmp 104) (Go.Operand.const (Go.Value.int Go.IntKind.i64 0)) 2, type := 4, pos := "laws.go:309", after := #[{ on := 1, ground := Go.Ground.data }], guard := none }) (v := ?vm2_3) rfl (by kernel_rfl) (by kernel_rfl) (by kernel_rfl) (fun _ _ _ h => h) (Or.inl ⟨by rfl, ?hm2_3⟩) hHeld ?rm2_3
        case hm2_3 =>
          intro wS hSw
          (try dsimp only at hSw)
          go_simp
          try with_reducible rfl
        case rm2_3 =>
        simp only [Act.put, List.setIfInBounds_toArray, List.set_cons_zero, List.set_cons_succ]
        refine wpAnyH_take (i := 3) (oi := { dst := some 106, op := Go.Op.move (Go.Operand.tmp 105), type := 4, pos := "laws.go:309", after := #[{ on := 2, ground := Go.Ground.data }], guard := none }) (v := ?vm3_4) rfl (by kernel_rfl) (by kernel_rfl) (by kernel_rfl) (fun _ _ _ h => h) (Or.inl ⟨by rfl, ?hm3_4⟩) hHeld ?rm3_4
        case hm3_4 =>
          intro wS hSw
          (try dsimp only at hSw)
          go_simp
          try with_reducible rfl
        case rm3_4 =>
        simp only [Act.put, List.setIfInBounds_toArray, List.set_cons_zero, List.set_cons_succ]
        refine wpAnyH_take (i := 4) (oi := { dst := some 107, op := Go.Op.fieldAddr 33 (Go.Operand.tmp 10) 1, type := 0, pos := "laws.go:309", after := #[{ on := 3, ground := Go.Ground.guard }], guard := some (3, true) }) (v := ?vm4_5) rfl (by kernel_rfl) (by kernel_rfl) (by kernel_rfl) (fun _ _ _ h => h) (Or.inl ⟨by rfl, ?hm4_5⟩) hHeld ?rm4_5
        case hm4_5 =>
          intro wS hSw
          (try dsimp only at hSw)
          go_simp
          try with_reducible rfl
        case rm4_5 =>
        simp only [Act.put, List.setIfInBounds_toArray, List.set_cons_zero, List.set_cons_succ]
        refine wpAnyH_take (i := 5) (oi := { dst := some 108, op := Go.Op.load 31 (Go.Operand.tmp 107), type := 31, pos := "laws.go:309", after := #[{ on := 4, ground := Go.Ground.data }, { on := 3, ground := Go.Ground.guard }], guard := some (3, true) }) (v := ?vm5_6) rfl (by kernel_rfl) (by kernel_rfl) (by kernel_rfl) (fun _ _ _ h => h) (Or.inl ⟨by rfl, ?hm5_6⟩) hHeld ?rm5_6
        case hm5_6 =>
          intro wS hSw
          obtain ⟨y0, y1, y2, y3, y4, y5, y6⟩ := unhide KEEP _ hSw
          clear hSw
          (try dsimp only at hSw)
          go_simp
          try with_reducible rfl
        case rm5_6 =>
        simp only [Act.put, List.setIfInBounds_toArray, List.set_cons_zero, List.set_cons_succ]
        refine wpAnyH_take (i := 6) (oi := { dst := some 109, op := Go.Op.fieldAddr 33 (Go.Operand.tmp 9) 1, type := 0, pos := "laws.go:309", after := #[{ on := 3, ground := Go.Ground.guard }], guard := some (3, true) }) (v := ?vm6_7) rfl (by kernel_rfl) (by kernel_rfl) (by kernel_rfl) (fun _ _ _ h => h) (Or.inl ⟨by rfl, ?hm6_7⟩) hHeld ?rm6_7
        case hm6_7 =>
          intro wS hSw
          (try dsimp only at hSw)
          go_simp
          try with_reducible rfl
        case rm6_7 =>
        simp only [Act.put, List.setIfInBounds_toArray, List.set_cons_zero, List.set_cons_succ]
        refine wpAnyH_take (i := 7) (oi := { dst := some 110, op := Go.Op.load 31 (Go.Operand.tmp 109), type := 31, pos := "laws.go:309", after := #[{ on := 6, ground := Go.Ground.data }, { on := 3, ground := Go.Ground.guard }], guard := some (3, true) }) (v := ?vm7_8) rfl (by kernel_rfl) (by kernel_rfl) (by kernel_rfl) (fun _ _ _ h => h) (Or.inl ⟨by rfl, ?hm7_8⟩) hHeld ?rm7_8
        case hm7_8 =>
          intro wS hSw
          obtain ⟨y0, y1, y2, y3, y4, y5, y6⟩ := unhide KEEP _ hSw
          clear hSw
          (try dsimp only at hSw)
          go_simp
          try with_reducible rfl
        case rm7_8 =>
        simp only [Act.put, List.setIfInBounds_toArray, List.set_cons_zero, List.set_cons_succ]
        refine wpAnyH_ready (rs := [8]) (by kernel_rfl) (by simp) ?_
        refine AllReadyH.cons (o := { dst := some 111, op := Go.Op.call { callee := Go.Callee.value (Go.Operand.func 16), args := #[Go.Operand.tmp 108, Go.Operand.tmp 110], argTypes := #[31, 31] }, type := 4, pos := "laws.go:309", after := #[{ on := 5, ground := Go.Ground.data }, { on := 7, ground := Go.Ground.data }, { on := 3, ground := Go.Ground.chain }, { on := 3, ground := Go.Ground.guard }], guard := some (3, true) }) rfl (fun K hK => ?_) AllReadyH.nil
        go_simp
        go_at_call 16
        refine (unhide LF _ hHeld).mono ?_
        rintro e v1 ⟨rfl, hbw⟩
        try go_wp2_with fail
        refine hK.out _ _ (hHeld.trans (hbw.mono hHeld.size)) (fun hHeld => ?_)
        clear hK K
        try simp only [Act.put, List.setIfInBounds_toArray, List.set_cons_zero, List.set_cons_succ]
        refine wpAnyH_take (i := 9) (oi := { dst := some 112, op := Go.Op.pick (Go.Operand.tmp 106) (Go.Operand.tmp 111) (Go.Operand.const (Go.Value.bool false)), type := 4, pos := "laws.go:309", after := #[{ on := 3, ground := Go.Ground.data }, { on := 8, ground := Go.Ground.data }], guard := none }) (v := ?vm9_9) rfl (by kernel_rfl) (by kernel_rfl) (by kernel_rfl) (fun _ _ _ h => h) (Or.inl ⟨by rfl, ?hm9_9⟩) hHeld ?rm9_9
        case hm9_9 =>
          intro wS hSw
          (try dsimp only at hSw)
          go_simp
          try with_reducible rfl
        case rm9_9 =>
        simp only [Act.put, List.setIfInBounds_toArray, List.set_cons_zero, List.set_cons_succ]
        refine wpAnyH_take (i := 10) (oi := { dst := some 113, op := Go.Op.move (Go.Operand.tmp 112), type := 4, pos := "laws.go:309", after := #[{ on := 9, ground := Go.Ground.data }, { on := 8, ground := Go.Ground.chain }], guard := none }) (v := ?vm10_10) rfl (by kernel_rfl) (by kernel_rfl) (by kernel_rfl) (fun _ _ _ h => h) (Or.inl ⟨by rfl, ?hm10_10⟩) hHeld ?rm10_10
        case hm10_10 =>
          intro wS hSw
          (try dsimp only at hSw)
          go_simp
          try with_reducible rfl
        case rm10_10 =>
        simp only [Act.put, List.setIfInBounds_toArray, List.set_cons_zero, List.set_cons_succ]
        refine wpAnyH_take (i := 11) (oi := { dst := some 114, op := Go.Op.fieldAddr 33 (Go.Operand.tmp 7) 1, type := 0, pos := "laws.go:309", after := #[{ on := 10, ground := Go.Ground.guard }], guard := some (10, true) }) (v := ?vm11_11) rfl (by kernel_rfl) (by kernel_rfl) (by kernel_rfl) (fun _ _ _ h => h) (Or.inl ⟨by rfl, ?hm11_11⟩) hHeld ?rm11_11
        case hm11_11 =>
          intro wS hSw
          (try dsimp only at hSw)
          go_simp
          try with_reducible rfl
        case rm11_11 =>
        simp only [Act.put, List.setIfInBounds_toArray, List.set_cons_zero, List.set_cons_succ]
        refine wpAnyH_take (i := 12) (oi := { dst := some 115, op := Go.Op.load 31 (Go.Operand.tmp 114), type := 31, pos := "laws.go:309", after := #[{ on := 11, ground := Go.Ground.data }, { on := 10, ground := Go.Ground.guard }], guard := some (10, true) }) (v := ?vm12_12) rfl (by kernel_rfl) (by kernel_rfl) (by kernel_rfl) (fun _ _ _ h => h) (Or.inl ⟨by rfl, ?hm12_12⟩) hHeld ?rm12_12
        case hm12_12 =>
          intro wS hSw
          obtain ⟨y0, y1, y2, y3, y4, y5, y6⟩ := unhide KEEP _ hSw
          clear hSw
          (try dsimp only at hSw)
          go_simp
          try with_reducible rfl
        case rm12_12 =>
        simp only [Act.put, List.setIfInBounds_toArray, List.set_cons_zero, List.set_cons_succ]
        refine wpAnyH_ready (rs := [13]) (by kernel_rfl) (by simp) ?_
        refine AllReadyH.cons (o := { dst := some 116, op := Go.Op.call { callee := Go.Callee.value (Go.Operand.func 17), args := #[Go.Operand.tmp 115], argTypes := #[31] }, type := 2, pos := "laws.go:309", after := #[{ on := 12, ground := Go.Ground.data }, { on := 10, ground := Go.Ground.chain }, { on := 10, ground := Go.Ground.guard }], guard := some (10, true) }) rfl (fun K hK => ?_) AllReadyH.nil
        go_simp
        go_at_call 17
        refine (unhide LH _ hHeld).mono ?_
        rintro e v2 ⟨rfl, hbw2⟩
        try go_wp2_with fail
        refine hK.out _ _ (hHeld.trans (hbw2.mono hHeld.size)) (fun hHeld => ?_)
        clear hK K
        try simp only [Act.put, List.setIfInBounds_toArray, List.set_cons_zero, List.set_cons_succ]
        refine wpAnyH_take (i := 14) (oi := { dst := some 117, op := Go.Op.binOp Go.BinOp.eql 2 (Go.Operand.tmp 116) (Go.Operand.const (Go.Value.int Go.IntKind.i64 0)) 2, type := 4, pos := "laws.go:309", after := #[{ on := 13, ground := Go.Ground.data }, { on := 10, ground := Go.Ground.guard }], guard := some (10, true) }) (v := ?vm14_13) rfl (by kernel_rfl) (by kernel_rfl) (by kernel_rfl) (fun _ _ _ h => h) (Or.inl ⟨by rfl, ?hm14_13⟩) hHeld ?rm14_13
        case hm14_13 =>
          intro wS hSw
          (try dsimp only at hSw)
          go_simp
          try with_reducible rfl
        case rm14_13 =>
        simp only [Act.put, List.setIfInBounds_toArray, List.set_cons_zero, List.set_cons_succ]
        refine wpAnyH_take (i := 15) (oi := { dst := some 118, op := Go.Op.pick (Go.Operand.tmp 113) (Go.Operand.tmp 117) (Go.Operand.const (Go.Value.bool false)), type := 4, pos := "laws.go:309", after := #[{ on := 10, ground := Go.Ground.data }, { on := 14, ground := Go.Ground.data }], guard := none }) (v := ?vm15_14) rfl (by kernel_rfl) (by kernel_rfl) (by kernel_rfl) (fun _ _ _ h => h) (Or.inl ⟨by rfl, ?hm15_14⟩) hHeld ?rm15_14
        case hm15_14 =>
          intro wS hSw
          (try dsimp only at hSw)
          go_simp
          try with_reducible rfl
        case rm15_14 =>
        simp only [Act.put, List.setIfInBounds_toArray, List.set_cons_zero, List.set_cons_succ]
        refine wpAnyH_take (i := 16) (oi := { dst := some 119, op := Go.Op.move (Go.Operand.tmp 118), type := 4, pos := "laws.go:309", after := #[{ on := 15, ground := Go.Ground.data }, { on := 13, ground := Go.Ground.chain }], guard := none }) (v := ?vm16_15) rfl (by kernel_rfl) (by kernel_rfl) (by kernel_rfl) (fun _ _ _ h => h) (Or.inl ⟨by rfl, ?hm16_15⟩) hHeld ?rm16_15
        case hm16_15 =>
          intro wS hSw
          (try dsimp only at hSw)
          go_simp
          try with_reducible rfl
        case rm16_15 =>
        simp only [Act.put, List.setIfInBounds_toArray, List.set_cons_zero, List.set_cons_succ]
        refine wpAnyH_take (i := 17) (oi := { dst := some 120, op := Go.Op.fieldAddr 33 (Go.Operand.tmp 7) 1, type := 0, pos := "laws.go:309", after := #[{ on := 16, ground := Go.Ground.guard }], guard := some (16, true) }) (v := ?vm17_16) rfl (by kernel_rfl) (by kernel_rfl) (by kernel_rfl) (fun _ _ _ h => h) (Or.inl ⟨by rfl, ?hm17_16⟩) hHeld ?rm17_16
        case hm17_16 =>
          intro wS hSw
          (try dsimp only at hSw)
          go_simp
          try with_reducible rfl
        case rm17_16 =>
        simp only [Act.put, List.setIfInBounds_toArray, List.set_cons_zero, List.set_cons_succ]
        refine wpAnyH_take (i := 18) (oi := { dst := some 121, op := Go.Op.load 31 (Go.Operand.tmp 120), type := 31, pos := "laws.go:309", after := #[{ on := 17, ground := Go.Ground.data }, { on := 16, ground := Go.Ground.guard }], guard := some (16, true) }) (v := ?vm18_17) rfl (by kernel_rfl) (by kernel_rfl) (by kernel_rfl) (fun _ _ _ h => h) (Or.inl ⟨by rfl, ?hm18_17⟩) hHeld ?rm18_17
        case hm18_17 =>
          intro wS hSw
          obtain ⟨y0, y1, y2, y3, y4, y5, y6⟩ := unhide KEEP _ hSw
          clear hSw
          (try dsimp only at hSw)
          go_simp
          try with_reducible rfl
        case rm18_17 =>
        simp only [Act.put, List.setIfInBounds_toArray, List.set_cons_zero, List.set_cons_succ]
        refine wpAnyH_take (i := 19) (oi := { dst := some 122, op := Go.Op.call { callee := Go.Callee.builtin Go.Builtin.len, args := #[Go.Operand.tmp 121], argTypes := #[31] }, type := 3, pos := "laws.go:309", after := #[{ on := 18, ground := Go.Ground.data }, { on := 16, ground := Go.Ground.guard }], guard := some (16, true) }) (v := ?vm19_18) rfl (by kernel_rfl) (by kernel_rfl) (by kernel_rfl) (fun _ _ _ h => h) (Or.inl ⟨by rfl, ?hm19_18⟩) hHeld ?rm19_18
        case hm19_18 =>
          intro wS hSw
          (try dsimp only at hSw)
          go_simp
          try with_reducible rfl
        case rm19_18 =>
        simp only [Act.put, List.setIfInBounds_toArray, List.set_cons_zero, List.set_cons_succ]
        refine wpAnyH_take (i := 20) (oi := { dst := some 123, op := Go.Op.fieldAddr 33 (Go.Operand.tmp 9) 1, type := 0, pos := "laws.go:309", after := #[{ on := 16, ground := Go.Ground.guard }], guard := some (16, true) }) (v := ?vm20_19) rfl (by kernel_rfl) (by kernel_rfl) (by kernel_rfl) (fun _ _ _ h => h) (Or.inl ⟨by rfl, ?hm20_19⟩) hHeld ?rm20_19
        case hm20_19 =>
          intro wS hSw
          (try dsimp only at hSw)
          go_simp
          try with_reducible rfl
        case rm20_19 =>
        simp only [Act.put, List.setIfInBounds_toArray, List.set_cons_zero, List.set_cons_succ]
        refine wpAnyH_take (i := 21) (oi := { dst := some 124, op := Go.Op.load 31 (Go.Operand.tmp 123), type := 31, pos := "laws.go:309", after := #[{ on := 20, ground := Go.Ground.data }, { on := 16, ground := Go.Ground.guard }], guard := some (16, true) }) (v := ?vm21_20) rfl (by kernel_rfl) (by kernel_rfl) (by kernel_rfl) (fun _ _ _ h => h) (Or.inl ⟨by rfl, ?hm21_20⟩) hHeld ?rm21_20
        case hm21_20 =>
          intro wS hSw
          obtain ⟨y0, y1, y2, y3, y4, y5, y6⟩ := unhide KEEP _ hSw
          clear hSw
          (try dsimp only at hSw)
          go_simp
          try with_reducible rfl
        case rm21_20 =>
        simp only [Act.put, List.setIfInBounds_toArray, List.set_cons_zero, List.set_cons_succ]
        refine wpAnyH_take (i := 22) (oi := { dst := some 125, op := Go.Op.call { callee := Go.Callee.builtin Go.Builtin.len, args := #[Go.Operand.tmp 124], argTypes := #[31] }, type := 3, pos := "laws.go:309", after := #[{ on := 21, ground := Go.Ground.data }, { on := 16, ground := Go.Ground.guard }], guard := some (16, true) }) (v := ?vm22_21) rfl (by kernel_rfl) (by kernel_rfl) (by kernel_rfl) (fun _ _ _ h => h) (Or.inl ⟨by rfl, ?hm22_21⟩) hHeld ?rm22_21
        case hm22_21 =>
          intro wS hSw
          (try dsimp only at hSw)
          go_simp
          try with_reducible rfl
        case rm22_21 =>
        simp only [Act.put, List.setIfInBounds_toArray, List.set_cons_zero, List.set_cons_succ]
        refine wpAnyH_take (i := 23) (oi := { dst := some 126, op := Go.Op.binOp Go.BinOp.leq 3 (Go.Operand.tmp 122) (Go.Operand.tmp 125) 3, type := 4, pos := "laws.go:309", after := #[{ on := 19, ground := Go.Ground.data }, { on := 22, ground := Go.Ground.data }, { on := 16, ground := Go.Ground.guard }], guard := some (16, true) }) (v := ?vm23_22) rfl (by kernel_rfl) (by kernel_rfl) (by kernel_rfl) (fun _ _ _ h => h) (Or.inl ⟨by rfl, ?hm23_22⟩) hHeld ?rm23_22
        case hm23_22 =>
          intro wS hSw
          clear hSw
          have g1p : (A.length : Int) ≤ (B.length : Int) := by omega
          (try dsimp only at hSw)
          go_simp
          try with_reducible rfl
        case rm23_22 =>
        simp only [Act.put, List.setIfInBounds_toArray, List.set_cons_zero, List.set_cons_succ]
        refine wpAnyH_take (i := 24) (oi := { dst := some 127, op := Go.Op.pick (Go.Operand.tmp 119) (Go.Operand.tmp 126) (Go.Operand.const (Go.Value.bool false)), type := 4, pos := "laws.go:309", after := #[{ on := 16, ground := Go.Ground.data }, { on := 23, ground := Go.Ground.data }], guard := none }) (v := ?vm24_23) rfl (by kernel_rfl) (by kernel_rfl) (by kernel_rfl) (fun _ _ _ h => h) (Or.inl ⟨by rfl, ?hm24_23⟩) hHeld ?rm24_23
        case hm24_23 =>
          intro wS hSw
          (try dsimp only at hSw)
          go_simp
          try with_reducible rfl
        case rm24_23 =>
        simp only [Act.put, List.setIfInBounds_toArray, List.set_cons_zero, List.set_cons_succ]
        refine wpAnyH_take (i := 25) (oi := { dst := some 128, op := Go.Op.move (Go.Operand.tmp 127), type := 4, pos := "laws.go:309", after := #[{ on := 24, ground := Go.Ground.data }, { on := 16, ground := Go.Ground.chain }], guard := none }) (v := ?vm25_24) rfl (by kernel_rfl) (by kernel_rfl) (by kernel_rfl) (fun _ _ _ h => h) (Or.inl ⟨by rfl, ?hm25_24⟩) hHeld ?rm25_24
        case hm25_24 =>
          intro wS hSw
          (try dsimp only at hSw)
          go_simp
          try with_reducible rfl
        case rm25_24 =>
        simp only [Act.put, List.setIfInBounds_toArray, List.set_cons_zero, List.set_cons_succ]
        refine wpAnyH_take (i := 26) (oi := { dst := some 129, op := Go.Op.fieldAddr 33 (Go.Operand.tmp 7) 1, type := 0, pos := "laws.go:309", after := #[{ on := 25, ground := Go.Ground.guard }], guard := some (25, true) }) (v := ?vm26_25) rfl (by kernel_rfl) (by kernel_rfl) (by kernel_rfl) (fun _ _ _ h => h) (Or.inl ⟨by rfl, ?hm26_25⟩) hHeld ?rm26_25
        case hm26_25 =>
          intro wS hSw
          (try dsimp only at hSw)
          go_simp
          try with_reducible rfl
        case rm26_25 =>
        simp only [Act.put, List.setIfInBounds_toArray, List.set_cons_zero, List.set_cons_succ]
        refine wpAnyH_take (i := 27) (oi := { dst := some 130, op := Go.Op.load 31 (Go.Operand.tmp 129), type := 31, pos := "laws.go:309", after := #[{ on := 26, ground := Go.Ground.data }, { on := 25, ground := Go.Ground.guard }], guard := some (25, true) }) (v := ?vm27_26) rfl (by kernel_rfl) (by kernel_rfl) (by kernel_rfl) (fun _ _ _ h => h) (Or.inl ⟨by rfl, ?hm27_26⟩) hHeld ?rm27_26
        case hm27_26 =>
          intro wS hSw
          obtain ⟨y0, y1, y2, y3, y4, y5, y6⟩ := unhide KEEP _ hSw
          clear hSw
          (try dsimp only at hSw)
          go_simp
          try with_reducible rfl
        case rm27_26 =>
        simp only [Act.put, List.setIfInBounds_toArray, List.set_cons_zero, List.set_cons_succ]
        refine wpAnyH_take (i := 28) (oi := { dst := some 131, op := Go.Op.load 27 (Go.Operand.tmp 3), type := 27, pos := "laws.go:309", after := #[{ on := 25, ground := Go.Ground.guard }], guard := some (25, true) }) (v := ?vm28_27) rfl (by kernel_rfl) (by kernel_rfl) (by kernel_rfl) (fun _ _ _ h => h) (Or.inl ⟨by rfl, ?hm28_27⟩) hHeld ?rm28_27
        case hm28_27 =>
          intro wS hSw
          obtain ⟨y0, y1, y2, y3, y4, y5, y6⟩ := unhide KEEP _ hSw
          clear hSw
          (try dsimp only at hSw)
          go_simp
          try with_reducible rfl
        case rm28_27 =>
        simp only [Act.put, List.setIfInBounds_toArray, List.set_cons_zero, List.set_cons_succ]
        refine wpAnyH_take (i := 29) (oi := { dst := some 132, op := Go.Op.move (Go.Operand.tmp 4), type := 28, pos := "laws.go:309", after := #[{ on := 25, ground := Go.Ground.guard }], guard := some (25, true) }) (v := ?vm29_28) rfl (by kernel_rfl) (by kernel_rfl) (by kernel_rfl) (fun _ _ _ h => h) (Or.inl ⟨by rfl, ?hm29_28⟩) hHeld ?rm29_28
        case hm29_28 =>
          intro wS hSw
          (try dsimp only at hSw)
          go_simp
          try with_reducible rfl
        case rm29_28 =>
        simp only [Act.put, List.setIfInBounds_toArray, List.set_cons_zero, List.set_cons_succ]
        refine wpAnyH_take (i := 30) (oi := { dst := some 133, op := Go.Op.move (Go.Operand.tmp 5), type := 2, pos := "laws.go:309", after := #[{ on := 25, ground := Go.Ground.guard }], guard := some (25, true) }) (v := ?vm30_29) rfl (by kernel_rfl) (by kernel_rfl) (by kernel_rfl) (fun _ _ _ h => h) (Or.inl ⟨by rfl, ?hm30_29⟩) hHeld ?rm30_29
        case hm30_29 =>
          intro wS hSw
          (try dsimp only at hSw)
          go_simp
          try with_reducible rfl
        case rm30_29 =>
        simp only [Act.put, List.setIfInBounds_toArray, List.set_cons_zero, List.set_cons_succ]
        refine wpAnyH_take (i := 31) (oi := { dst := some 134, op := Go.Op.move (Go.Operand.tmp 6), type := 2, pos := "laws.go:309", after := #[{ on := 25, ground := Go.Ground.guard }], guard := some (25, true) }) (v := ?vm31_30) rfl (by kernel_rfl) (by kernel_rfl) (by kernel_rfl) (fun _ _ _ h => h) (Or.inl ⟨by rfl, ?hm31_30⟩) hHeld ?rm31_30
        case hm31_30 =>
          intro wS hSw
          (try dsimp only at hSw)
          go_simp
          try with_reducible rfl
        case rm31_30 =>
        simp only [Act.put, List.setIfInBounds_toArray, List.set_cons_zero, List.set_cons_succ]
        refine wpAnyH_ready (rs := [32]) (by kernel_rfl) (by simp) ?_
        refine AllReadyH.cons (o := { dst := some 135, op := Go.Op.call { callee := Go.Callee.value (Go.Operand.func 10), args := #[Go.Operand.tmp 131, Go.Operand.tmp 132, Go.Operand.tmp 133, Go.Operand.tmp 134], argTypes := #[27, 28, 2, 2] }, type := 33, pos := "laws.go:309", after := #[{ on := 28, ground := Go.Ground.data }, { on := 29, ground := Go.Ground.data }, { on := 30, ground := Go.Ground.data }, { on := 31, ground := Go.Ground.data }, { on := 25, ground := Go.Ground.chain }, { on := 25, ground := Go.Ground.guard }], guard := some (25, true) }) rfl (fun K hK => ?_) AllReadyH.nil
        go_simp
        go_at_call 10
        refine (unhide LM _ hHeld).mono ?_
        rintro e v3 ⟨b1, k1, rfl, r1, hbw3⟩
        try go_wp2_with fail
        refine hK.out _ _ (hHeld.trans (hbw3.mono hHeld.size)) (fun hHeld => ?_)
        clear hK K
        try simp only [Act.put, List.setIfInBounds_toArray, List.set_cons_zero, List.set_cons_succ]
        refine wpAnyH_take (i := 33) (oi := { dst := some 136, op := Go.Op.field 33 (Go.Operand.tmp 135) 1, type := 31, pos := "laws.go:309", after := #[{ on := 32, ground := Go.Ground.data }, { on := 25, ground := Go.Ground.guard }], guard := some (25, true) }) (v := ?vm33_31) rfl (by kernel_rfl) (by kernel_rfl) (by kernel_rfl) (fun _ _ _ h => h) (Or.inl ⟨by rfl, ?hm33_31⟩) hHeld ?rm33_31
        case hm33_31 =>
          intro wS hSw
          have yf := hfl b1 k1
          clear hSw
          (try dsimp only at hSw)
          go_simp
          try with_reducible rfl
        case rm33_31 =>
        simp only [Act.put, List.setIfInBounds_toArray, List.set_cons_zero, List.set_cons_succ]
        refine wpAnyH_ready (rs := [34]) (by kernel_rfl) (by simp) ?_
        refine AllReadyH.cons (o := { dst := some 137, op := Go.Op.call { callee := Go.Callee.value (Go.Operand.func 16), args := #[Go.Operand.tmp 130, Go.Operand.tmp 136], argTypes := #[31, 31] }, type := 4, pos := "laws.go:309", after := #[{ on := 27, ground := Go.Ground.data }, { on := 33, ground := Go.Ground.data }, { on := 32, ground := Go.Ground.chain }, { on := 25, ground := Go.Ground.guard }], guard := some (25, true) }) rfl (fun K hK => ?_) AllReadyH.nil
        go_simp
        go_at_call 16
        refine (unhide LE _ b1 k1 hHeld r1).mono ?_
        rintro e v4 ⟨rfl, hbw4⟩
        try go_wp2_with fail
        refine hK.out _ _ (hHeld.trans (hbw4.mono hHeld.size)) (fun hHeld => ?_)
        clear hK K
        try simp only [Act.put, List.setIfInBounds_toArray, List.set_cons_zero, List.set_cons_succ]
        refine wpAnyH_take (i := 35) (oi := { dst := some 138, op := Go.Op.pick (Go.Operand.tmp 128) (Go.Operand.tmp 137) (Go.Operand.const (Go.Value.bool false)), type := 4, pos := "laws.go:309", after := #[{ on := 25, ground := Go.Ground.data }, { on := 34, ground := Go.Ground.data }], guard := none }) (v := ?vm35_32) rfl (by kernel_rfl) (by kernel_rfl) (by kernel_rfl) (fun _ _ _ h => h) (Or.inl ⟨by rfl, ?hm35_32⟩) hHeld ?rm35_32
        case hm35_32 =>
          intro wS hSw
          (try dsimp only at hSw)
          go_simp
          try with_reducible rfl
        case rm35_32 =>
        simp only [Act.put, List.setIfInBounds_toArray, List.set_cons_zero, List.set_cons_succ]
        refine wpAnyH_take (i := 36) (oi := { dst := some 2, op := Go.Op.assign (Go.Operand.tmp 138), type := 4, pos := "laws.go:309", after := #[{ on := 35, ground := Go.Ground.data }, { on := 34, ground := Go.Ground.chain }, { on := 0, ground := Go.Ground.phase }, { on := 1, ground := Go.Ground.phase }, { on := 2, ground := Go.Ground.phase }, { on := 3, ground := Go.Ground.phase }, { on := 4, ground := Go.Ground.phase }, { on := 5, ground := Go.Ground.phase }, { on := 6, ground := Go.Ground.phase }, { on := 7, ground := Go.Ground.phase }, { on := 8, ground := Go.Ground.phase }, { on := 9, ground := Go.Ground.phase }, { on := 10, ground := Go.Ground.phase }, { on := 11, ground := Go.Ground.phase }, { on := 12, ground := Go.Ground.phase }, { on := 13, ground := Go.Ground.phase }, { on := 14, ground := Go.Ground.phase }, { on := 15, ground := Go.Ground.phase }, { on := 16, ground := Go.Ground.phase }, { on := 17, ground := Go.Ground.phase }, { on := 18, ground := Go.Ground.phase }, { on := 19, ground := Go.Ground.phase }, { on := 20, ground := Go.Ground.phase }, { on := 21, ground := Go.Ground.phase }, { on := 22, ground := Go.Ground.phase }, { on := 23, ground := Go.Ground.phase }, { on := 24, ground := Go.Ground.phase }, { on := 25, ground := Go.Ground.phase }, { on := 26, ground := Go.Ground.phase }, { on := 27, ground := Go.Ground.phase }, { on := 28, ground := Go.Ground.phase }, { on := 29, ground := Go.Ground.phase }, { on := 30, ground := Go.Ground.phase }, { on := 31, ground := Go.Ground.phase }, { on := 32, ground := Go.Ground.phase }, { on := 33, ground := Go.Ground.phase }, { on := 34, ground := Go.Ground.phase }, { on := 35, ground := Go.Ground.phase }], guard := none }) (v := ?vm36_33) rfl (by kernel_rfl) (by kernel_rfl) (by kernel_rfl) (fun _ _ _ h => h) (Or.inl ⟨by rfl, ?hm36_33⟩) hHeld ?rm36_33
        case hm36_33 =>
          intro wS hSw
          (try dsimp only at hSw)
          go_simp
          try with_reducible rfl
        case rm36_33 =>
        simp only [Act.put, List.setIfInBounds_toArray, List.set_cons_zero, List.set_cons_succ]
        refine wpAnyH_done (by kernel_rfl) ?_ _
        refine NoPanic.normal ?_
        have HB9 := hide ((unhide HB).trans (hHeld.mono (unhide HB).size))
        clear hHeld
        go_wp2_with fail
        go_ret
        exact ⟨rfl, unhide HB9⟩
  · have hne : ((searchIvfR x vec kk n).code != 0) = true := by rw [bne_iff_ne]; exact hf
    have heq : ((searchIvfR x vec kk n).code == (searchIvfR x vec kk n).code) = true := by simp
    clear hf R2
    generalize hfc : (searchIvfR x vec kk n).code = fc at *
    generalize (searchIvfR x vec kk n).hits.length = m1 at *
    have HFC := hide hfc
    clear hfc
    have nb2 : Below w2.heap.size w2 (w2.alloc (.cells #[.int .i64 fc, .slice a1 m1 d1] 33)) := (Below.refl _ _).alloc (Nat.le_refl _) _
    have x6 : Box 0 #[.int .i64 fc, .slice a1 m1 d1] 33 (w2.alloc (.cells #[.int .i64 fc, .slice a1 m1 d1] 33)) w2.heap.size := newBox (Nat.zero_le _)
    have z0 : (w2.alloc (.cells #[.int .i64 fc, .slice a1 m1 d1] 33)).cell? ⟨w2.heap.size, 0, none⟩ = some (.int .i64 fc) := x6.at 0 _ rfl
    have HX6 := hide x6
    replace HX3 := hide (((unhide HX3).keep hb2).keep nb2)
    replace HRX := hide (((unhide HRX).later hb2).later nb2)
    replace HRV := hide (((unhide HRV).later hb2).later nb2)
    replace HB := hide (((unhide HB).trans (hb2.mono (unhide HB).size)).trans (nb2.mono (Nat.le_trans (unhide HB).size hb2.size)))
    have LM : Hid (∀ W, Below (w2.alloc (.cells #[.int .i64 fc, .slice a1 m1 d1] 33)).heap.size (w2.alloc (.cells #[.int .i64 fc, .slice a1 m1 d1] 33)) W → Calls Tryz.prog 10 #[.agg #[.slice a8 x.centers.length c8, .slice a9 x.lists.length c9], .slice av vec.length dv, .int .i64 kk, .int .i64 n] W fun e w' => ∃ (b1 : Option Addr) (l1 k1 : Nat), e = .returned (.agg #[.int .i64 fc, .slice b1 l1 k1]) ∧ Below W.heap.size W w') := fun W hW => by
      refine (specSearchIvf _ x _ vec kk n W ((unhide HRX).later hW) ((unhide HRV).later hW)).mono ?_
      rintro e w' ⟨cs, rfl, O, -, hb⟩
      obtain ⟨b1, k1, rfl, -⟩ := open_HitsResult O
      rw [unhide HFC]
      exact ⟨b1, _, k1, rfl, hb⟩
    have hfl := fun a l k => fieldHI0 fc a l k
    clear nb2 x6 hb2 L2 HRX HRV
    go_wp2_with fail
    clear z0
    generalize w2.alloc (.cells #[.int .i64 fc, .slice a1 m1 d1] 33) = wz at *
    refine wp_region_noPanic ?_
    refine wp_region_held_drew (S := fun w' => Below wz.heap.size wz w') (by kernel_rfl) (Below.refl _ _).drew (fun hHeld => ?_)
    generalize wz.drew = wD at hHeld ⊢
    refine wpAnyH_take (i := 0) (oi := { dst := some 30, op := Go.Op.load 27 (Go.Operand.tmp 3), type := 27, pos := "laws.go:298", after := #[], guard := none }) (v := ?vc0_1) rfl (by kernel_rfl) (by kernel_rfl) (by kernel_rfl) (fun _ _ _ h => h) (Or.inl ⟨by rfl, ?hc0_1⟩) hHeld ?rc0_1
    case hc0_1 =>
      intro wS hSw
      have y0 := ((unhide HX3).keep hSw).at 0 _ rfl
      have y1 := ((unhide HX3).keep hSw).at 1 _ rfl
      simp only [List.getElem_toArray, List.getElem_cons_zero, List.getElem_cons_succ] at y0 y1
      clear hSw
      (try dsimp only at hSw)
      go_simp
      try with_reducible rfl
    case rc0_1 =>
    simp only [Act.put, List.setIfInBounds_toArray, List.set_cons_zero, List.set_cons_succ]
    refine wpAnyH_take (i := 1) (oi := { dst := some 31, op := Go.Op.move (Go.Operand.tmp 4), type := 28, pos := "laws.go:298", after := #[], guard := none }) (v := ?vc1_2) rfl (by kernel_rfl) (by kernel_rfl) (by kernel_rfl) (fun _ _ _ h => h) (Or.inl ⟨by rfl, ?hc1_2⟩) hHeld ?rc1_2
    case hc1_2 =>
      intro wS hSw
      (try dsimp only at hSw)
      go_simp
      try with_reducible rfl
    case rc1_2 =>
    simp only [Act.put, List.setIfInBounds_toArray, List.set_cons_zero, List.set_cons_succ]
    refine wpAnyH_take (i := 2) (oi := { dst := some 32, op := Go.Op.move (Go.Operand.tmp 5), type := 2, pos := "laws.go:298", after := #[], guard := none }) (v := ?vc2_3) rfl (by kernel_rfl) (by kernel_rfl) (by kernel_rfl) (fun _ _ _ h => h) (Or.inl ⟨by rfl, ?hc2_3⟩) hHeld ?rc2_3
    case hc2_3 =>
      intro wS hSw
      (try dsimp only at hSw)
      go_simp
      try with_reducible rfl
    case rc2_3 =>
    simp only [Act.put, List.setIfInBounds_toArray, List.set_cons_zero, List.set_cons_succ]
    refine wpAnyH_take (i := 3) (oi := { dst := some 33, op := Go.Op.move (Go.Operand.tmp 6), type := 2, pos := "laws.go:298", after := #[], guard := none }) (v := ?vc3_4) rfl (by kernel_rfl) (by kernel_rfl) (by kernel_rfl) (fun _ _ _ h => h) (Or.inl ⟨by rfl, ?hc3_4⟩) hHeld ?rc3_4
    case hc3_4 =>
      intro wS hSw
      (try dsimp only at hSw)
      go_simp
      try with_reducible rfl
    case rc3_4 =>
    simp only [Act.put, List.setIfInBounds_toArray, List.set_cons_zero, List.set_cons_succ]
    refine wpAnyH_take (i := 6) (oi := { dst := some 36, op := Go.Op.fieldAddr 33 (Go.Operand.tmp 7) 0, type := 0, pos := "laws.go:298", after := #[], guard := none }) (v := ?vc6_5) rfl (by kernel_rfl) (by kernel_rfl) (by kernel_rfl) (fun _ _ _ h => h) (Or.inl ⟨by rfl, ?hc6_5⟩) hHeld ?rc6_5
    case hc6_5 =>
      intro wS hSw
      (try dsimp only at hSw)
      go_simp
      try with_reducible rfl
    case rc6_5 =>
    simp only [Act.put, List.setIfInBounds_toArray, List.set_cons_zero, List.set_cons_succ]
    refine wpAnyH_take (i := 7) (oi := { dst := some 37, op := Go.Op.load 2 (Go.Operand.tmp 36), type := 2, pos := "laws.go:298", after := #[{ on := 6, ground := Go.Ground.data }], guard := none }) (v := ?vc7_6) rfl (by kernel_rfl) (by kernel_rfl) (by kernel_rfl) (fun _ _ _ h => h) (Or.inl ⟨by rfl, ?hc7_6⟩) hHeld ?rc7_6
    case hc7_6 =>
      intro wS hSw
      have y6 := ((unhide HX6).keep hSw).at 0 _ rfl
      simp only [List.getElem_toArray, List.getElem_cons_zero] at y6
      clear hSw
      (try dsimp only at hSw)
      go_simp
      try with_reducible rfl
    case rc7_6 =>
    simp only [Act.put, List.setIfInBounds_toArray, List.set_cons_zero, List.set_cons_succ]
    refine wpAnyH_ready (rs := [4]) (by kernel_rfl) (by simp) ?_
    refine AllReadyH.cons (o := { dst := some 34, op := Go.Op.call { callee := Go.Callee.value (Go.Operand.func 10), args := #[Go.Operand.tmp 30, Go.Operand.tmp 31, Go.Operand.tmp 32, Go.Operand.tmp 33], argTypes := #[27, 28, 2, 2] }, type := 33, pos := "laws.go:298", after := #[{ on := 0, ground := Go.Ground.data }, { on := 1, ground := Go.Ground.data }, { on := 2, ground := Go.Ground.data }, { on := 3, ground := Go.Ground.data }], guard := none }) rfl (fun K hK => ?_) AllReadyH.nil
    go_simp
    go_at_call 10
    refine (unhide LM _ hHeld).mono ?_
    rintro e v1 ⟨b1, l1, k1, rfl, hbw⟩
    try go_wp2_with fail
    refine hK.out _ _ (hHeld.trans (hbw.mono hHeld.size)) (fun hHeld => ?_)
    clear hK K
    try simp only [Act.put, List.setIfInBounds_toArray, List.set_cons_zero, List.set_cons_succ]
    refine wpAnyH_take (i := 5) (oi := { dst := some 35, op := Go.Op.field 33 (Go.Operand.tmp 34) 0, type := 2, pos := "laws.go:298", after := #[{ on := 4, ground := Go.Ground.data }], guard := none }) (v := ?vc5_7) rfl (by kernel_rfl) (by kernel_rfl) (by kernel_rfl) (fun _ _ _ h => h) (Or.inl ⟨by rfl, ?hc5_7⟩) hHeld ?rc5_7
    case hc5_7 =>
      intro wS hSw
      have yf := hfl b1 l1 k1
      clear hSw
      (try dsimp only at hSw)
      go_simp
      try with_reducible rfl
    case rc5_7 =>
    simp only [Act.put, List.setIfInBounds_toArray, List.set_cons_zero, List.set_cons_succ]
    refine wpAnyH_take (i := 8) (oi := { dst := some 38, op := Go.Op.binOp Go.BinOp.eql 2 (Go.Operand.tmp 35) (Go.Operand.tmp 37) 2, type := 4, pos := "laws.go:298", after := #[{ on := 5, ground := Go.Ground.data }, { on := 7, ground := Go.Ground.data }], guard := none }) (v := ?vc8_8) rfl (by kernel_rfl) (by kernel_rfl) (by kernel_rfl) (fun _ _ _ h => h) (Or.inl ⟨by rfl, ?hc8_8⟩) hHeld ?rc8_8
    case hc8_8 =>
      intro wS hSw
      (try dsimp only at hSw)
      go_simp
      try with_reducible rfl
    case rc8_8 =>
    simp only [Act.put, List.setIfInBounds_toArray, List.set_cons_zero, List.set_cons_succ]
    refine wpAnyH_take (i := 9) (oi := { dst := some 2, op := Go.Op.assign (Go.Operand.tmp 38), type := 4, pos := "laws.go:298", after := #[{ on := 8, ground := Go.Ground.data }, { on := 4, ground := Go.Ground.chain }, { on := 0, ground := Go.Ground.phase }, { on := 1, ground := Go.Ground.phase }, { on := 2, ground := Go.Ground.phase }, { on := 3, ground := Go.Ground.phase }, { on := 4, ground := Go.Ground.phase }, { on := 5, ground := Go.Ground.phase }, { on := 6, ground := Go.Ground.phase }, { on := 7, ground := Go.Ground.phase }, { on := 8, ground := Go.Ground.phase }], guard := none }) (v := ?vc9_9) rfl (by kernel_rfl) (by kernel_rfl) (by kernel_rfl) (fun _ _ _ h => h) (Or.inl ⟨by rfl, ?hc9_9⟩) hHeld ?rc9_9
    case hc9_9 =>
      intro wS hSw
      (try dsimp only at hSw)
      go_simp
      try with_reducible rfl
    case rc9_9 =>
    simp only [Act.put, List.setIfInBounds_toArray, List.set_cons_zero, List.set_cons_succ]
    refine wpAnyH_done (by kernel_rfl) ?_ _
    refine NoPanic.normal ?_
    have HB9 := hide ((unhide HB).trans (hHeld.mono (unhide HB).size))
    clear hHeld
    go_wp2_with fail
    go_ret
    exact ⟨rfl, unhide HB9⟩

theorem lawFnIvf (ao : Option Addr) (len cap : Nat) (zs : List Int) (w : World) (h : (ao = none ∧ len = 0 ∧ cap = 0 ∧ zs = []) ∨
    ∃ x, ao = some x ∧ len ≤ cap ∧ cap ≤ maxLen ∧ zs.length = cap ∧ (∀ i, i < zs.length → w.cell? (x.add i) = some (.int .u8 (zs.getD i 0))) ∧ ∀ n ∈ zs, (Lit.int .u8 n).wf = true) :
    Calls Tryz.prog 3 #[.slice ao len cap] w fun e w' => e = .returned (.bool true) ∧ Below w.heap.size w w' := by
  by_cases hn : len ≤ 1048576
  · exact lawIvf_few ao len cap w hn (isCode_of_row h hn)
  · exact lawIvf_many ao len cap w (by omega)

end Go.Proofs.YtggnnbdjihihiaaGreat
