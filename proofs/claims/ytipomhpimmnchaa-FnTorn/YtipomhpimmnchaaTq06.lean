/-
  Texts of this proof in one: ImplAppLog, ImplSame.
  Their conditions stand in their theorems.
-/
import Derived.Test.YtipomhpimmnchaaTq04
import Derived.Test.YtipomhpimmnchaaTq02
import Derived.Test.YtipomhpimmnchaaTq05
import Derived.Deep.RegionHeld3
import Derived.Test.YtipomhpimmnchaaChecked
import Derived.Test.YtipomhpimmnchaaTq03

namespace Go.Proofs.Ytipomhpimmnchaa
open Go.RowKit

set_option maxRecDepth 100000 in
set_option maxHeartbeats 4000000 in
theorem implAppendLog (cs : List Value) (x : DLog) (ys : List Value) (y : DWrite) (w : World) (h : Lay.tLog.Reads w cs x) (hy : Lay.tWrite.Reads w ys y) (n1 : x.sure.length ≤ 10000000) (n2 : x.loose.length ≤ 10000000) :
    Calls Try.prog 36 #[.agg cs.toArray, .agg ys.toArray] w fun e w' => ∃ cs, e = .returned (.agg cs.toArray) ∧ Lay.tLogResult.OwnIn w' cs (appendLogR x y) w.heap.size w'.heap.size ∧ Below w.heap.size w w' := by
  obtain ⟨a0, d0, a1, d1, rfl, R0, R1⟩ := open_Log h
  obtain ⟨a2, d2, rfl, R2⟩ := open_Write hy
  have HV := hide R2
  clear hy R2
  have nb : Below w.heap.size w (((w.alloc (.cells #[.slice a0 x.sure.length d0, .slice a1 x.loose.length d1] 48)).alloc (.cells #[.int .i64 y.kind, .int .i64 y.id, .slice a2 y.vec.length d2, .int .i64 y.session, .int .i64 y.seq] 58)).alloc (.cells #[.int .i64 0, .int .i64 0, .slice none 0 0, .slice none 0 0] 56)) := (((Below.refl _ _).alloc (Nat.le_refl _) _).alloc (by simp) _).alloc (by simp; omega) _
  have bX : Box w.heap.size #[.slice a0 x.sure.length d0, .slice a1 x.loose.length d1] 48 (((w.alloc (.cells #[.slice a0 x.sure.length d0, .slice a1 x.loose.length d1] 48)).alloc (.cells #[.int .i64 y.kind, .int .i64 y.id, .slice a2 y.vec.length d2, .int .i64 y.session, .int .i64 y.seq] 58)).alloc (.cells #[.int .i64 0, .int .i64 0, .slice none 0 0, .slice none 0 0] 56)) w.heap.size := ((newBox (Nat.le_refl _)).grow _).grow _
  have bR : Box 0 #[.int .i64 0, .int .i64 0, .slice none 0 0, .slice none 0 0] 56 (((w.alloc (.cells #[.slice a0 x.sure.length d0, .slice a1 x.loose.length d1] 48)).alloc (.cells #[.int .i64 y.kind, .int .i64 y.id, .slice a2 y.vec.length d2, .int .i64 y.session, .int .i64 y.seq] 58)).alloc (.cells #[.int .i64 0, .int .i64 0, .slice none 0 0, .slice none 0 0] 56)) (w.heap.size + 2) := newBoxAt (Nat.zero_le _) (by simp)
  have HY0 : Hid (Box w.heap.size #[.int .i64 y.kind, .int .i64 y.id, .slice a2 y.vec.length d2, .int .i64 y.session, .int .i64 y.seq] 58 (((w.alloc (.cells #[.slice a0 x.sure.length d0, .slice a1 x.loose.length d1] 48)).alloc (.cells #[.int .i64 y.kind, .int .i64 y.id, .slice a2 y.vec.length d2, .int .i64 y.session, .int .i64 y.seq] 58)).alloc (.cells #[.int .i64 0, .int .i64 0, .slice none 0 0, .slice none 0 0] 56)) (w.heap.size + 1)) := (newBoxAt (by omega) (by simp)).grow _
  have HL := hide (implLogFault _ x _ (h.later nb) n1 n2)
  have H0 := hide R0
  have H1 := hide R1
  have HX0 := hide bX
  have HR0 := hide bR
  have HB0 := hide nb
  clear h nb bX bR R0 R1
  go_enter Try.func36, Try.ntmps36
  go_wp2_with fail
  generalize ((w.alloc (.cells #[.slice a0 x.sure.length d0, .slice a1 x.loose.length d1] 48)).alloc (.cells #[.int .i64 y.kind, .int .i64 y.id, .slice a2 y.vec.length d2, .int .i64 y.session, .int .i64 y.seq] 58)).alloc (.cells #[.int .i64 0, .int .i64 0, .slice none 0 0, .slice none 0 0] 56) = W0 at *
  refine (unhide HL).mono ?_
  rintro e W2 ⟨rfl, hb⟩
  have HX := hide ((unhide HX0).keep hb)
  have HR := hide ((unhide HR0).keep hb)
  have HB2 := hide ((unhide HB0).trans (hb.mono (unhide HB0).size))
  have HY2 := hide ((unhide HY0).keep hb)
  clear hb HL HX0 HR0 HB0
  by_cases hf : logFault x = 0
  · obtain ⟨hn, hs, hl⟩ := logFault_zero hf
    have HF := hide hf
    have HSU := hide hs
    have HLO := hide hl
    rw [hf]
    clear hf hs hl
    have bY := unhide HY2
    have v0 := bY.at 0 _ rfl
    have v1 := bY.at 1 _ rfl
    have v2 := bY.at 2 _ rfl
    have v3 := bY.at 3 _ rfl
    have v4 := bY.at 4 _ rfl
    simp only [List.getElem_toArray, List.getElem_cons_zero, List.getElem_cons_succ] at v0 v1 v2 v3 v4
    have hyl := bY.lt
    have LP := hide (implPack y.kind y.id _ y.session y.seq y.vec W2 (Lay.ints_reads ((unhide HV).later (unhide HB2))))
    have HPK : Hid (packList y.kind y.id y.vec y.session y.seq = packD y) := rfl
    have HWX : Hid (writeFault y.kind y.id y.vec y.session y.seq = wF y) := rfl
    rw [unhide HPK, unhide HWX] at LP
    clear bY HPK HWX
    go_wp2_with fail
    refine (unhide LP).mono ?_
    rintro e w3 ⟨r3, rfl, O3, hb3⟩
    obtain ⟨a4, c4, rfl⟩ := own_shape O3
    have hOI := Lay.ownInts (zs := packD y) (fun z hz => packList_wf z hz) (Nat.le_trans packList_len (by omega)) O3
    have nb5 : Below w3.heap.size w3 (w3.alloc (.cells #[.int .i64 (wF y), .slice a4 (packD y).length c4] 26)) := (Below.refl _ _).alloc (Nat.le_refl _) _
    have HP5 : Hid (Box 0 #[.int .i64 (wF y), .slice a4 (packD y).length c4] 26 (w3.alloc (.cells #[.int .i64 (wF y), .slice a4 (packD y).length c4] 26)) w3.heap.size) := newBox (Nat.zero_le _)
    have HG := hide (unhide HR).lt
    have hB35 := hb3.trans (nb5.mono hb3.size)
    have HX5 := hide ((unhide HX).keep hB35)
    have HR5 := hide ((unhide HR).keep hB35)
    have HB5 := hide ((unhide HB2).trans (hB35.mono (unhide HB2).size))
    have HPB : Hid (w.heap.size + 2 < w3.heap.size) := Nat.lt_of_lt_of_le (unhide HG) hb3.size
    have HPL := hide (hOI.lies.later nb5)
    have HPL8 : Hid ((packD y).length = if wF y = 0 then 8 else 0) := by
      show (packD y).length = _
      by_cases e : wF y = 0
      · rw [if_pos e, packD_len e]
      · rw [if_neg e, packD, packList, if_neg (show ¬ writeFault y.kind y.id y.vec y.session y.seq = 0 from e)]; rfl
    simp only [intsRes]
    clear LP O3 hOI hb3 nb5 hB35 HX HR HB2 v0 v1 v2 v3 v4 HY2 hyl
    have p0 := (unhide HP5).at 0 _ rfl
    simp only [List.getElem_toArray, List.getElem_cons_zero] at p0
    by_cases hy : wF y = 0
    · have h8 : (packD y).length = 8 := by rw [unhide HPL8, if_pos hy]
      have HP8 := hide h8
      have HPW : Hid (∀ z ∈ packD y, (Lit.int .i64 z).wf = true) := fun z hz => packList_wf z hz
      rw [h8] at HP5 HX5 HR5 HB5 HPL p0 ⊢
      by_cases hm : 320 ≤ x.sure.length + x.loose.length
      · have HY : Hid (appendLogR x y = badLog 2) := by show appendLogR x y = _; rw [appendLogR, if_pos (unhide HF), if_pos hy, if_pos hm]
        rw [hy] at HP5 HX5 HR5 HB5 HPL p0 ⊢
        have hd2 : decide ((x.sure.length : Int) + (x.loose.length : Int) + 8 > 320) = true := by simp; omega
        have x0 := (unhide HX5).at 0 _ rfl
        have x1 := (unhide HX5).at 1 _ rfl
        simp only [List.getElem_toArray, List.getElem_cons_zero, List.getElem_cons_succ] at x0 x1
        have HR := HR5
        have HB2 := HB5
        clear hy HF h8 HPL8 HP8
        have bR := unhide HR
        have z0 := bR.at 0 _ rfl
        have z1 := bR.at 1 _ rfl
        have z2 := bR.at 2 _ rfl
        have z3 := bR.at 3 _ rfl
        have ff := bR.soft
        have l0 := bR.lt
        simp only [List.getElem_toArray, List.getElem_cons_zero, List.getElem_cons_succ] at z0 z1 z2 z3
        clear bR
        go_wp2_with fail
        refine bodyPost_ret (v := .agg #[.int .i64 2, .int .i64 0, .slice none 0 0, .slice none 0 0]) (by simp [results, Try.results36, go_sem, z0, z1, z2, z3]) rfl ?_
        rw [unhide HY]
        have hB9 := below_setAll (unhide HB2) (w.heap.size + 2) 0 [.int .i64 2, .int .i64 0, .slice none 0 0, .slice none 0 0] (by omega)
        exact ⟨[.int .i64 2, .int .i64 0, .slice none 0 0, .slice none 0 0], rfl, own_badLog (by decide) (by have := hB9.size; exact this), hB9⟩
      · have HY : Hid (appendLogR x y = logOf x.sure (x.loose ++ packD y)) := by show appendLogR x y = _; rw [appendLogR, if_pos (unhide HF), if_pos hy, if_neg hm]
        rw [hy] at HP5 HX5 HR5 HB5 HPL p0 ⊢
        have hd2 : decide ((x.sure.length : Int) + (x.loose.length : Int) + 8 > 320) = false := by
          have h1 := unhide HSU
          have h2 := unhide HLO
          simp
          omega
        have HWA : Hid (∀ z ∈ x.loose ++ packD y, (Lit.int .i64 z).wf = true) := by
          intro z hz
          rcases List.mem_append.1 hz with hz | hz
          · exact (Lay.ints_reads (unhide H1)).wf z hz
          · exact unhide HPW z hz
        have x0 := (unhide HX5).at 0 _ rfl
        have x1 := (unhide HX5).at 1 _ rfl
        simp only [List.getElem_toArray, List.getElem_cons_zero, List.getElem_cons_succ] at x0 x1
        have hxl := (unhide HX5).lt
        clear hy HF h8 HPL8 HPW
        go_wp2_with fail
        clear x0 x1 p0
        generalize w3.alloc (.cells #[.int .i64 0, .slice a4 8 c4] 26) = W5 at *
        have hRD : Box 0 #[.int .i64 0, .int .i64 0, .slice none 0 0, .slice none 0 0] 56 W5.drew (w.heap.size + 2) := (unhide HR5).drew
        have hPD : (Lay.sl Lay.int).LiesIn W5.drew [.slice a4 8 c4] (packD y) W2.heap.size w3.heap.size := unhide HPL
        refine wp_region_noPanic ?_
        refine wp_region_held_drew (S := fun w' => Ext (fun q => q = w.heap.size + 2) W5 w') (by kernel_rfl) ⟨rfl, rfl, rfl, Nat.le_refl _, fun _ _ _ => rfl⟩ (fun hHeld => ?_)
        generalize W5.drew = wD at hHeld hRD hPD ⊢
        refine wpAnyH_take (i := 0) (oi := { dst := some 31, op := Go.Op.fieldAddr 48 (Go.Operand.tmp 2) 0, type := 0, pos := "l08_log.go:59", after := #[], guard := none }) (v := ?v0_1) rfl (by kernel_rfl) (by kernel_rfl) (by kernel_rfl) (fun _ _ _ h => h) (Or.inl ⟨by rfl, ?h0_1⟩) hHeld ?r0_1
        case h0_1 =>
          intro wS hSw
          (try dsimp only at hSw)
          go_simp
          try with_reducible rfl
        case r0_1 =>
        simp only [Act.put, List.setIfInBounds_toArray, List.set_cons_zero, List.set_cons_succ]
        refine wpAnyH_take (i := 1) (oi := { dst := some 32, op := Go.Op.load 24 (Go.Operand.tmp 31), type := 24, pos := "l08_log.go:59", after := #[{ on := 0, ground := Go.Ground.data }], guard := none }) (v := ?v1_2) rfl (by kernel_rfl) (by kernel_rfl) (by kernel_rfl) (fun _ _ _ h => h) (Or.inl ⟨by rfl, ?h1_2⟩) hHeld ?r1_2
        case h1_2 =>
          intro wS hSw
          have y0 := ((unhide HX5).ext hSw (by omega)).at 0 _ rfl
          simp only [List.getElem_toArray, List.getElem_cons_zero] at y0
          clear hSw
          (try dsimp only at hSw)
          go_simp
          try with_reducible rfl
        case r1_2 =>
        simp only [Act.put, List.setIfInBounds_toArray, List.set_cons_zero, List.set_cons_succ]
        refine wpAnyH_take (i := 3) (oi := { dst := some 34, op := Go.Op.fieldAddr 48 (Go.Operand.tmp 2) 1, type := 0, pos := "l08_log.go:59", after := #[], guard := none }) (v := ?v3_3) rfl (by kernel_rfl) (by kernel_rfl) (by kernel_rfl) (fun _ _ _ h => h) (Or.inl ⟨by rfl, ?h3_3⟩) hHeld ?r3_3
        case h3_3 =>
          intro wS hSw
          (try dsimp only at hSw)
          go_simp
          try with_reducible rfl
        case r3_3 =>
        simp only [Act.put, List.setIfInBounds_toArray, List.set_cons_zero, List.set_cons_succ]
        refine wpAnyH_take (i := 4) (oi := { dst := some 35, op := Go.Op.load 24 (Go.Operand.tmp 34), type := 24, pos := "l08_log.go:59", after := #[{ on := 3, ground := Go.Ground.data }], guard := none }) (v := ?v4_4) rfl (by kernel_rfl) (by kernel_rfl) (by kernel_rfl) (fun _ _ _ h => h) (Or.inl ⟨by rfl, ?h4_4⟩) hHeld ?r4_4
        case h4_4 =>
          intro wS hSw
          have y1 := ((unhide HX5).ext hSw (by omega)).at 1 _ rfl
          simp only [List.getElem_toArray, List.getElem_cons_zero, List.getElem_cons_succ] at y1
          clear hSw
          (try dsimp only at hSw)
          go_simp
          try with_reducible rfl
        case r4_4 =>
        simp only [Act.put, List.setIfInBounds_toArray, List.set_cons_zero, List.set_cons_succ]
        refine wpAnyH_take (i := 5) (oi := { dst := some 36, op := Go.Op.fieldAddr 26 (Go.Operand.tmp 6) 1, type := 0, pos := "l08_log.go:59", after := #[], guard := none }) (v := ?v5_5) rfl (by kernel_rfl) (by kernel_rfl) (by kernel_rfl) (fun _ _ _ h => h) (Or.inl ⟨by rfl, ?h5_5⟩) hHeld ?r5_5
        case h5_5 =>
          intro wS hSw
          (try dsimp only at hSw)
          go_simp
          try with_reducible rfl
        case r5_5 =>
        simp only [Act.put, List.setIfInBounds_toArray, List.set_cons_zero, List.set_cons_succ]
        refine wpAnyH_take (i := 6) (oi := { dst := some 37, op := Go.Op.load 24 (Go.Operand.tmp 36), type := 24, pos := "l08_log.go:59", after := #[{ on := 5, ground := Go.Ground.data }], guard := none }) (v := ?v6_6) rfl (by kernel_rfl) (by kernel_rfl) (by kernel_rfl) (fun _ _ _ h => h) (Or.inl ⟨by rfl, ?h6_6⟩) hHeld ?r6_6
        case h6_6 =>
          intro wS hSw
          have yp := ((unhide HP5).ext hSw (by have := unhide HPB; omega)).at 1 _ rfl
          simp only [List.getElem_toArray, List.getElem_cons_zero, List.getElem_cons_succ] at yp
          clear hSw
          (try dsimp only at hSw)
          go_simp
          try with_reducible rfl
        case r6_6 =>
        simp only [Act.put, List.setIfInBounds_toArray, List.set_cons_zero, List.set_cons_succ]
        refine wpAnyH_ready (rs := [2]) (by kernel_rfl) (by simp) ?_
        refine AllReadyH.cons (o := { dst := some 33, op := Go.Op.call { callee := Go.Callee.value (Go.Operand.func 68), args := #[Go.Operand.tmp 32], argTypes := #[24] }, type := 24, pos := "l08_log.go:59", after := #[{ on := 1, ground := Go.Ground.data }], guard := none }) rfl (fun K hK => ?_) AllReadyH.nil
        go_simp
        go_at_call 68
        have hWD := (unhide HB5).trans (hHeld.below (unhide HB5).size (fun q hq e => by omega))
        refine (cloneC _ x.sure _ ((unhide H0).later hWD) (by omega)).mono ?_
        rintro e w6 ⟨a6, n6, c6, rfl, O6, hbw⟩
        have HO6 := hide O6
        have hnb : n6 ≤ 10000000 := by have := O6.2; omega
        clear O6
        have hS6 := hHeld.trans (ext_of_below hbw _)
        have hW6 := hWD.trans (hbw.mono hWD.size)
        have bR6 := hRD.keep hbw
        have hzD := hRD.lt
        have hP6 := hPD.later hbw
        have hz6 := hbw.size
        try go_wp2_with fail
        refine hK.out _ _ hS6 (fun hHeld => ?_)
        clear hK K
        try simp only [Act.put, List.setIfInBounds_toArray, List.set_cons_zero, List.set_cons_succ]
        refine wpAnyH_ready (rs := [7]) (by kernel_rfl) (by simp) ?_
        refine AllReadyH.cons (o := { dst := some 38, op := Go.Op.call { callee := Go.Callee.value (Go.Operand.func 69), args := #[Go.Operand.tmp 35, Go.Operand.tmp 37], argTypes := #[24, 24] }, type := 24, pos := "l08_log.go:59", after := #[{ on := 4, ground := Go.Ground.data }, { on := 6, ground := Go.Ground.data }, { on := 2, ground := Go.Ground.chain }], guard := none }) rfl (fun K hK => ?_) AllReadyH.nil
        go_simp
        go_at_call 69
        refine (implJoined _ _ x.loose (packD y) w6 ((unhide H1).later hW6) hP6.reads (by omega) (by have := unhide HP8; omega)).mono ?_
        rintro e w7 ⟨m, hm, rfl, O7, hbw7⟩
        have hS7 := hS6.trans (ext_of_below hbw7 _)
        have hW7 := hW6.trans (hbw7.mono hW6.size)
        have bR7 := bR6.keep hbw7
        have hz7 := hbw7.size
        have hm8 : m = x.loose.length + 8 := by rw [hm, unhide HP8]
        have HM := hide hm
        have HM8 := hide hm8
        have hmb : m ≤ 1000 := by omega
        clear hm hm8
        try go_wp2_with fail
        refine hK.out _ _ hS7 (fun hHeld => ?_)
        clear hK K
        try simp only [Act.put, List.setIfInBounds_toArray, List.set_cons_zero, List.set_cons_succ]
        refine wpAnyH_take (i := 8) (oi := { dst := some 39, op := Go.Op.build 48 #[(0, Go.Operand.tmp 33), (1, Go.Operand.tmp 38)], type := 48, pos := "l08_log.go:59", after := #[{ on := 2, ground := Go.Ground.data }, { on := 7, ground := Go.Ground.data }], guard := none }) (v := ?v8_7) rfl (by kernel_rfl) (by kernel_rfl) (by kernel_rfl) (fun _ _ _ h => h) (Or.inl ⟨by rfl, ?h8_7⟩) hHeld ?r8_7
        case h8_7 =>
          intro wS hSw
          (try dsimp only at hSw)
          go_simp
          try with_reducible rfl
        case r8_7 =>
        simp only [Act.put, List.setIfInBounds_toArray, List.set_cons_zero, List.set_cons_succ]
        refine wpAnyH_ready (rs := [9]) (by kernel_rfl) (by simp) ?_
        refine AllReadyH.cons (o := { dst := some 40, op := Go.Op.call { callee := Go.Callee.value (Go.Operand.func 67), args := #[Go.Operand.tmp 39], argTypes := #[48] }, type := 56, pos := "l08_log.go:59", after := #[{ on := 8, ground := Go.Ground.data }, { on := 7, ground := Go.Ground.chain }], guard := none }) rfl (fun K hK => ?_) AllReadyH.nil
        go_simp
        go_at_call 67
        refine (implCounted a6 n6 c6 (some ⟨w6.heap.size, 0, none⟩) m m w7 (by omega) (by omega)).mono ?_
        rintro e w4 ⟨cn, hcn, rfl, hb4⟩
        have hS4 := hS7.trans (ext_of_below hb4 _)
        have bR := bR7.keep hb4
        have hH4 := hW7.trans (hb4.mono hW7.size)
        have hOW : Lay.tLogResult.OwnIn w4 [.int .i64 0, .int .i64 cn, .slice a6 n6 c6, .slice (some ⟨w6.heap.size, 0, none⟩) m m] (logOf x.sure (x.loose ++ packD y)) wD.heap.size w4.heap.size := by
          have hcw : (Lit.int .i64 cn).wf = true := by rw [hcn]; exact count_wf (by omega)
          have e : logOf x.sure (x.loose ++ packD y) = ⟨0, cn, ⟨x.sure, x.loose ++ packD y⟩⟩ := by rw [logOf, hcn, List.length_append, unhide HP8, unhide HM8, (unhide HO6).2]
          rw [e]
          have q1 := ((unhide HO6).1.later hbw7).later hb4
          have q2 := (Lay.ownInts (zs := x.loose ++ packD y) (unhide HWA) (by rw [List.length_append, unhide HP8]; omega) (by rw [List.length_append, ← unhide HM]; exact O7)).later hb4
          have hz8 := hb4.size
          exact own_logR (by decide) hcw q1 (q2.mono (Nat.le_refl _) hz8) (Nat.le_refl _) hz6 (by omega)
        have hlo : w.heap.size + 2 < wD.heap.size := hzD
        have hlo4 : w.heap.size ≤ wD.heap.size := by omega
        clear hcn
        try go_wp2_with fail
        refine hK.out _ _ hS4 (fun hHeld => ?_)
        clear hK K
        try simp only [Act.put, List.setIfInBounds_toArray, List.set_cons_zero, List.set_cons_succ]
        refine wpAnyH_ready (rs := [10]) (by kernel_rfl) (by simp) ?_
        refine AllReadyH.cons (o := { dst := none, op := Go.Op.store 56 (Go.Operand.tmp 4) (Go.Operand.tmp 40), type := 0, pos := "l08_log.go:59", after := #[{ on := 9, ground := Go.Ground.data }, { on := 9, ground := Go.Ground.chain }, { on := 0, ground := Go.Ground.phase }, { on := 1, ground := Go.Ground.phase }, { on := 2, ground := Go.Ground.phase }, { on := 3, ground := Go.Ground.phase }, { on := 4, ground := Go.Ground.phase }, { on := 5, ground := Go.Ground.phase }, { on := 6, ground := Go.Ground.phase }, { on := 7, ground := Go.Ground.phase }, { on := 8, ground := Go.Ground.phase }, { on := 9, ground := Go.Ground.phase }], guard := none }) rfl (fun K hK => ?_) AllReadyH.nil
        have z0 := bR.at 0 _ rfl
        have z1 := bR.at 1 _ rfl
        have z2 := bR.at 2 _ rfl
        have z3 := bR.at 3 _ rfl
        have ff := bR.soft
        have l0 := bR.lt
        simp only [List.getElem_toArray, List.getElem_cons_zero, List.getElem_cons_succ] at z0 z1 z2 z3
        have hfin := own_store' (s := w.heap.size + 2) (vs := [.int .i64 0, .int .i64 cn, .slice a6 n6 c6, .slice (some ⟨w6.heap.size, 0, none⟩) m m]) hOW hlo
        have hbfin := below_setAll hH4 (w.heap.size + 2) 0 [.int .i64 0, .int .i64 cn, .slice a6 n6 c6, .slice (some ⟨w6.heap.size, 0, none⟩) m m] (by omega)
        have hsfin := size_setAll w4 (w.heap.size + 2) 0 [.int .i64 0, .int .i64 cn, .slice a6 n6 c6, .slice (some ⟨w6.heap.size, 0, none⟩) m m]
        go_simp
        try go_wp2_with fail
        refine hK.out _ _ (ext_setAll (fun q => q = w.heap.size + 2) hS4 (w.heap.size + 2) 0 [.int .i64 0, .int .i64 cn, .slice a6 n6 c6, .slice (some ⟨w6.heap.size, 0, none⟩) m m] rfl) (fun hHeld => ?_)
        clear hK K
        try simp only [Act.put, List.setIfInBounds_toArray, List.set_cons_zero, List.set_cons_succ]
        refine wpAnyH_done (by kernel_rfl) ?_ _
        refine NoPanic.normal ?_
        clear hHeld
        have HFIN := hide hfin
        have HBF := hide hbfin
        have HSF := hide hsfin
        have HLO4 := hide hlo4
        clear hfin hbfin hsfin hOW hH4 bR hlo hlo4 HO6 O7 hS4 hS6 hS7 hbw hbw7 hb4 bR6 bR7 hRD hPD hP6
        go_wp2_with fail
        refine bodyPost_ret (v := .agg #[.int .i64 0, .int .i64 cn, .slice a6 n6 c6, .slice (some ⟨w6.heap.size, 0, none⟩) m m]) (by simp [results, Try.results36, go_sem, z0, z1, z2, z3]) rfl ?_
        rw [unhide HY]
        refine ⟨[.int .i64 0, .int .i64 cn, .slice a6 n6 c6, .slice (some ⟨w6.heap.size, 0, none⟩) m m], rfl, ?_, unhide HBF⟩
        refine (unhide HFIN).mono (unhide HLO4) ?_
        exact Nat.le_of_eq (unhide HSF).symm
    · have hd2 : (wF y != 0) = true := by simpa using hy
      have HY : Hid (appendLogR x y = badLog (wF y)) := by show appendLogR x y = _; rw [appendLogR, if_pos (unhide HF), if_neg hy]
      have HW := hide (wF_wf y)
      have HR := HR5
      have HB2 := HB5
      clear HF hy HPL HPL8 HP5 HX5
      generalize wF y = c at *
      have bR := unhide HR
      have z0 := bR.at 0 _ rfl
      have z1 := bR.at 1 _ rfl
      have z2 := bR.at 2 _ rfl
      have z3 := bR.at 3 _ rfl
      have ff := bR.soft
      have l0 := bR.lt
      simp only [List.getElem_toArray, List.getElem_cons_zero, List.getElem_cons_succ] at z0 z1 z2 z3
      clear bR
      go_wp2_with fail
      refine bodyPost_ret (v := .agg #[.int .i64 c, .int .i64 0, .slice none 0 0, .slice none 0 0]) (by simp [results, Try.results36, go_sem, z0, z1, z2, z3]) rfl ?_
      rw [unhide HY]
      have hB9 := below_setAll (unhide HB2) (w.heap.size + 2) 0 [.int .i64 c, .int .i64 0, .slice none 0 0, .slice none 0 0] (by omega)
      exact ⟨[.int .i64 c, .int .i64 0, .slice none 0 0, .slice none 0 0], rfl, own_badLog (unhide HW) (by have := hB9.size; exact this), hB9⟩
  · have hd : (logFault x != 0) = true := by simpa using hf
    have HY : Hid (appendLogR x y = badLog (logFault x)) := by show appendLogR x y = _; rw [appendLogR, if_neg hf]
    have HW := hide (logFault_wf x)
    generalize logFault x = c at *
    clear hf
    have bR := unhide HR
    have z0 := bR.at 0 _ rfl
    have z1 := bR.at 1 _ rfl
    have z2 := bR.at 2 _ rfl
    have z3 := bR.at 3 _ rfl
    have ff := bR.soft
    have l0 := bR.lt
    simp only [List.getElem_toArray, List.getElem_cons_zero, List.getElem_cons_succ] at z0 z1 z2 z3
    clear bR
    go_wp2_with fail
    refine bodyPost_ret (v := .agg #[.int .i64 c, .int .i64 0, .slice none 0 0, .slice none 0 0]) (by simp [results, Try.results36, go_sem, z0, z1, z2, z3]) rfl ?_
    rw [unhide HY]
    have hB9 := below_setAll (unhide HB2) (w.heap.size + 2) 0 [.int .i64 c, .int .i64 0, .slice none 0 0, .slice none 0 0] (by omega)
    exact ⟨[.int .i64 c, .int .i64 0, .slice none 0 0, .slice none 0 0], rfl, own_badLog (unhide HW) (by have := hB9.size; exact this), hB9⟩

end Go.Proofs.Ytipomhpimmnchaa

namespace Go.Proofs.Ytipomhpimmnchaa
open Go.RowKit

set_option maxRecDepth 10000 in
set_option maxHeartbeats 2000000 in
theorem sameWrite (cs cs2 : List Value) (x y : DWrite) (w : World) (h : Lay.tWrite.Reads w cs x) (h2 : Lay.tWrite.Reads w cs2 y) :
    Calls Try.prog 80 #[.agg cs.toArray, .agg cs2.toArray] w fun e w' => e = .returned (.bool (sameW x y)) ∧ Below w.heap.size w w' := by
  obtain ⟨a2, d2, rfl, R2⟩ := open_Write h
  obtain ⟨a2z, d2z, rfl, R2z⟩ := open_Write h2
  clear h h2
  have HB : Hid (Below w.heap.size w ((w.alloc (.cells #[.int .i64 x.kind, .int .i64 x.id, .slice a2 x.vec.length d2, .int .i64 x.session, .int .i64 x.seq] 58)).alloc (.cells #[.int .i64 y.kind, .int .i64 y.id, .slice a2z y.vec.length d2z, .int .i64 y.session, .int .i64 y.seq] 58))) := ((Below.refl _ _).alloc (Nat.le_refl _) _).alloc (by simp) _
  cases e0 : (x.kind == y.kind) with
  | false =>
    have HS : Hid (sameW x y = false) := by
      show sameW x y = false
      simp [sameW, e0]
    go_enter Try.func80, Try.ntmps80
    go_wp2_with fail
    go_ret
    exact ⟨by rw [unhide HS]; rfl, unhide HB⟩
  | true =>
    cases e1 : (x.id == y.id) with
    | false =>
      have HS : Hid (sameW x y = false) := by
        show sameW x y = false
        simp [sameW, e0, e1]
      go_enter Try.func80, Try.ntmps80
      go_wp2_with fail
      go_ret
      exact ⟨by rw [unhide HS]; rfl, unhide HB⟩
    | true =>
      cases e2 : (x.session == y.session) with
      | false =>
        have HS : Hid (sameW x y = false) := by
          show sameW x y = false
          simp [sameW, e0, e1, e2]
        go_enter Try.func80, Try.ntmps80
        go_wp2_with fail
        go_ret
        exact ⟨by rw [unhide HS]; rfl, unhide HB⟩
      | true =>
        cases e3 : (x.seq == y.seq) with
        | false =>
          have HS : Hid (sameW x y = false) := by
            show sameW x y = false
            simp [sameW, e0, e1, e2, e3]
          go_enter Try.func80, Try.ntmps80
          go_wp2_with fail
          go_ret
          exact ⟨by rw [unhide HS]; rfl, unhide HB⟩
        | true =>
          have HS : Hid (sameW x y = decide (x.vec = y.vec)) := by
            show sameW x y = decide (x.vec = y.vec)
            simp [sameW, e0, e1, e2, e3]
          have L := hide (slEqual _ _ x.vec y.vec _ ((Lay.ints_reads R2).later (unhide HB)) ((Lay.ints_reads R2z).later (unhide HB)) R2.big)
          clear R2 R2z
          go_enter Try.func80, Try.ntmps80
          go_wp2_with fail
          refine (unhide L).mono ?_
          rintro e w1 ⟨rfl, hb⟩
          have HB1 := hide ((unhide HB).trans (hb.mono (unhide HB).size))
          clear hb L HB
          go_wp2_with fail
          go_ret
          exact ⟨by rw [unhide HS]; rfl, unhide HB1⟩

set_option maxRecDepth 10000 in
set_option maxHeartbeats 2000000 in
theorem equalFunc_pos (b off cap b2 off2 cap2 : Nat) (xs ys : List DWrite) (w : World) (hl : xs.length = ys.length) (h : (Lay.sl Lay.tWrite).Reads w [.slice (some ⟨b, off, none⟩) xs.length cap] xs) (h2 : (Lay.sl Lay.tWrite).Reads w [.slice (some ⟨b2, off2, none⟩) ys.length cap2] ys) (hbl : b < w.heap.size) (hbl2 : b2 < w.heap.size) :
    Calls Try.prog 79 #[.slice (some ⟨b, off, none⟩) xs.length cap, .slice (some ⟨b2, off2, none⟩) xs.length cap2, .func (.func 80) #[] #[]] w fun e w' => e = .returned (.bool (sameWs xs ys)) ∧ Below w.heap.size w w' := by
  have hbig := h.big
  have H := hide h
  have H2 := hide h2
  have HL := hide hl
  clear h h2 hl
  go_enter Try.func79, Try.ntmps79
  go_wp2_with fail
  go_loopw [17] (fun i wr => ∃ k : Nat, k ≤ xs.length ∧ i = .int .i64 k ∧ (∀ j (h1 : j < xs.length) (h2 : j < ys.length), j < k → sameW xs[j] ys[j] = true) ∧ Below w.heap.size w wr) (fun i _ => xs.length - (intOf i).toNat)
  case atStart => exact ⟨0, Nat.zero_le _, rfl, fun j _ _ hj => by omega, Below.refl _ _⟩
  case round =>
    obtain ⟨k, hk, rfl, hq, hB⟩ := hrel
    by_cases hlt : k < xs.length
    · have hlt2 : k < ys.length := by have := unhide HL; omega
      obtain ⟨row, hc, hr⟩ := Lay.row_at (unhide H) hlt
      obtain ⟨rowz, hcz, hrz⟩ := Lay.row_at (unhide H2) hlt2
      replace hr := hr.later hB
      replace hrz := hrz.later hB
      have hr2 := hr
      obtain ⟨a2, d2, rfl, -⟩ := open_Write hr2
      have hrz2 := hrz
      obtain ⟨a2z, d2z, rfl, -⟩ := open_Write hrz2
      have c0 : wr.cell? ⟨b, off + k * 5, none⟩ = some (.int .i64 (xs[k]).kind) := (hB.cell (p := ⟨b, off + k * 5, none⟩) hbl).trans (hc 0 (by decide))
      have c1 : wr.cell? ⟨b, off + k * 5 + 1, none⟩ = some (.int .i64 (xs[k]).id) := (hB.cell (p := ⟨b, off + k * 5 + 1, none⟩) hbl).trans (hc 1 (by decide))
      have c2 : wr.cell? ⟨b, off + k * 5 + 2, none⟩ = some (.slice a2 (xs[k]).vec.length d2) := (hB.cell (p := ⟨b, off + k * 5 + 2, none⟩) hbl).trans (hc 2 (by decide))
      have c3 : wr.cell? ⟨b, off + k * 5 + 3, none⟩ = some (.int .i64 (xs[k]).session) := (hB.cell (p := ⟨b, off + k * 5 + 3, none⟩) hbl).trans (hc 3 (by decide))
      have c4 : wr.cell? ⟨b, off + k * 5 + 4, none⟩ = some (.int .i64 (xs[k]).seq) := (hB.cell (p := ⟨b, off + k * 5 + 4, none⟩) hbl).trans (hc 4 (by decide))
      have c0z : wr.cell? ⟨b2, off2 + k * 5, none⟩ = some (.int .i64 (ys[k]).kind) := (hB.cell (p := ⟨b2, off2 + k * 5, none⟩) hbl2).trans (hcz 0 (by decide))
      have c1z : wr.cell? ⟨b2, off2 + k * 5 + 1, none⟩ = some (.int .i64 (ys[k]).id) := (hB.cell (p := ⟨b2, off2 + k * 5 + 1, none⟩) hbl2).trans (hcz 1 (by decide))
      have c2z : wr.cell? ⟨b2, off2 + k * 5 + 2, none⟩ = some (.slice a2z (ys[k]).vec.length d2z) := (hB.cell (p := ⟨b2, off2 + k * 5 + 2, none⟩) hbl2).trans (hcz 2 (by decide))
      have c3z : wr.cell? ⟨b2, off2 + k * 5 + 3, none⟩ = some (.int .i64 (ys[k]).session) := (hB.cell (p := ⟨b2, off2 + k * 5 + 3, none⟩) hbl2).trans (hcz 3 (by decide))
      have c4z : wr.cell? ⟨b2, off2 + k * 5 + 4, none⟩ = some (.int .i64 (ys[k]).seq) := (hB.cell (p := ⟨b2, off2 + k * 5 + 4, none⟩) hbl2).trans (hcz 4 (by decide))
      have l1 : b < wr.heap.size := Nat.lt_of_lt_of_le hbl hB.size
      have l2 : b2 < wr.heap.size := Nat.lt_of_lt_of_le hbl2 hB.size
      have HQ := hide hq
      have HB := hide hB
      have HR := hide hr
      have HRZ := hide hrz
      have HX : Hid (sameW xs[k] ys[k] = false → sameWs xs ys = false) := sameWs_at k hlt hlt2
      have HY : Hid (sameW xs[k] ys[k] = true → ∀ j (h1 : j < xs.length) (h2 : j < ys.length), j < k + 1 → sameW xs[j] ys[j] = true) := by
        intro h j h1 h2 hj
        by_cases hjk : j < k
        · exact unhide HQ j h1 h2 hjk
        · obtain rfl : j = k := by omega
          exact h
      clear hq hB hr hrz hc hcz HQ
      generalize hx : xs[k] = x at *
      generalize hy : ys[k] = y at *
      clear hx hy
      have nb : Below wr.heap.size wr ((wr.alloc (.cells #[.int .i64 x.kind, .int .i64 x.id, .slice a2 x.vec.length d2, .int .i64 x.session, .int .i64 x.seq] 58)).alloc (.cells #[.int .i64 y.kind, .int .i64 y.id, .slice a2z y.vec.length d2z, .int .i64 y.session, .int .i64 y.seq] 58)) := ((Below.refl _ _).alloc (Nat.le_refl _) _).alloc (by simp) _
      have L := hide (sameWrite _ _ x y _ ((unhide HR).later nb) ((unhide HRZ).later nb))
      replace HB := hide ((unhide HB).trans (nb.mono (unhide HB).size))
      clear nb HR HRZ
      go_wp2_with fail
      refine (unhide L).mono ?_
      rintro e w3 ⟨rfl, hb⟩
      replace HB := hide ((unhide HB).trans (hb.mono (unhide HB).size))
      clear hb L c0 c1 c2 c3 c4 c0z c1z c2z c3z c4z
      cases hs : sameW x y with
      | true =>
        have HZ := hide (unhide HY hs)
        clear hs HX HY
        go_wp2_with fail
        go_roundw
        case rel => exact ⟨k + 1, by omega, by go_num, unhide HZ, unhide HB⟩
        case measure => simp [intOf]; omega
      | false =>
        have HZ := hide (unhide HX hs)
        clear hs HX HY
        go_wp2_with fail
        go_ret
        exact ⟨by rw [unhide HZ]; rfl, unhide HB⟩
    · have HZ := hide (sameWs_all (unhide HL) fun j h1 h2 => hq j h1 h2 (by omega))
      have HB := hide hB
      clear hq hB
      go_wp2_with fail
      go_ret
      exact ⟨by rw [unhide HZ]; rfl, unhide HB⟩

theorem equalFunc_len (ao ao2 : Option Addr) (n m cap cap2 : Nat) (f : Value) (w : World) (h : n ≠ m) :
    Calls Try.prog 79 #[.slice ao n cap, .slice ao2 m cap2, f] w fun e w' => e = .returned (.bool false) ∧ Below w.heap.size w w' := by
  have hd : ((n : Int) != (m : Int)) = true := by rw [bne_iff_ne]; omega
  go_enter Try.func79, Try.ntmps79
  go_wp2_with fail
  go_ret
  exact ⟨rfl, Below.refl _ _⟩
theorem equalFunc_zero (ao ao2 : Option Addr) (cap cap2 : Nat) (f : Value) (w : World) :
    Calls Try.prog 79 #[.slice ao 0 cap, .slice ao2 0 cap2, f] w fun e w' => e = .returned (.bool true) ∧ Below w.heap.size w w' := by
  go_enter Try.func79, Try.ntmps79
  go_wp2_with fail
  refine wp_loop_rounds 1 ?_
  rw [rounds_succ]
  go_wp2_with fail
  go_ret
  exact ⟨rfl, Below.refl _ _⟩

/-- SameWrites of the program. -/
theorem implSame (v v2 : Value) (xs ys : List DWrite) (w : World) (h : (Lay.sl Lay.tWrite).Reads w [v] xs) (h2 : (Lay.sl Lay.tWrite).Reads w [v2] ys) :
    Calls Try.prog 51 #[v, v2] w fun e w' => e = .returned (.bool (sameWs xs ys)) ∧ Below w.heap.size w w' := by
  obtain ⟨ao, cap, rfl⟩ := open_sl h
  obtain ⟨ao2, cap2, rfl⟩ := open_sl h2
  have L : Hid (Calls Try.prog 79 #[.slice ao xs.length cap, .slice ao2 ys.length cap2, .func (.func 80) #[] #[]] w fun e w' => e = .returned (.bool (sameWs xs ys)) ∧ Below w.heap.size w w') := by
    show Calls Try.prog 79 #[.slice ao xs.length cap, .slice ao2 ys.length cap2, .func (.func 80) #[] #[]] w fun e w' => e = .returned (.bool (sameWs xs ys)) ∧ Below w.heap.size w w'
    by_cases hl : xs.length = ys.length
    · by_cases hp : 0 < xs.length
      · obtain ⟨b, off, rfl, hbl⟩ := Lay.sl_addr h hp
        obtain ⟨b2, off2, rfl, hbl2⟩ := Lay.sl_addr h2 (by omega)
        rw [← hl]
        exact equalFunc_pos b off cap b2 off2 cap2 xs ys w hl h (by rw [← hl] at h2 ⊢; exact h2) hbl hbl2
      · obtain rfl : xs = [] := List.eq_nil_of_length_eq_zero (by omega)
        obtain rfl : ys = [] := List.eq_nil_of_length_eq_zero (by simpa using hl.symm)
        exact equalFunc_zero ao ao2 cap cap2 _ w
    · rw [sameWs_len hl]
      exact equalFunc_len ao ao2 _ _ cap cap2 _ w hl
  clear h h2
  go_enter Try.func51, Try.ntmps51
  go_wp2_with fail
  refine (unhide L).mono ?_
  rintro e w1 ⟨rfl, hb⟩
  have HB := hide hb
  clear hb L
  go_wp2_with fail
  go_ret
  exact ⟨rfl, unhide HB⟩

end Go.Proofs.Ytipomhpimmnchaa
