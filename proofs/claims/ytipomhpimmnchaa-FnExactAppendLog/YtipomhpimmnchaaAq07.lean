/-
  Texts of this proof in one: ImplAppLog, LogFew, LawAppLog, LayOpen, OpenLog, OpenWrite.
  Their conditions stand in their theorems.
-/
import Derived.Test.YtipomhpimmnchaaAq06
import Derived.Test.YtipomhpimmnchaaAq04
import Derived.Deep.RegionHeld3
import Derived.Test.YtipomhpimmnchaaAq05
import Derived.Test.YtipomhpimmnchaaAq03
import Derived.Test.YtipomhpimmnchaaChecked
import Derived.Test.YtipomhpimmnchaaAq01
import Derived.ProofKit
import Derived.OpenShut
import Derived.Deep.Slices
import Derived.Test.YtipomhpimmnchaaAq02

namespace Go.Proofs.Ytipomhpimmnchaa
open Go.RowKit

set_option maxRecDepth 100000 in
set_option maxHeartbeats 4000000 in
theorem implAppendLog (cs : List Value) (x : DLog) (ys : List Value) (y : DWrite) (w : World) (h : Lay.tLog.Reads w cs x) (hy : Lay.tWrite.Reads w ys y) (n1 : x.sure.length ≤ 10000000) (n2 : x.loose.length ≤ 10000000) :
    Calls Try.prog 36 #[.agg cs.toArray, .agg ys.toArray] w fun e w' => ∃ cs, e = .returned (.agg cs.toArray) ∧ Lay.tLogResult.OwnIn w' cs (appendLogR x y) w.heap.size w'.heap.size ∧ Below w.heap.size w w' := by
  obtain ⟨a0, d0, a1, d1, rfl, R0, R1⟩ := open_Log h
  obtain ⟨a2, d2, rfl, R2⟩ := open_Write hy
  have HV := hide R2
  clear hy R2
  have nb : Below w.heap.size w (((w.alloc (.cells #[.slice a0 x.sure.length d0, .slice a1 x.loose.length d1] 48)).alloc (.cells #[.int .i64 y.kind, .int .i64 y.id, .slice a2 y.vec.length d2, .int .i64 y.session, .int .i64 y.seq] 58)).alloc (.cells #[.int .i64 0, .int .i64 0, .slice none 0 0, .slice none 0 0] 56)) := (((Below.refl _ _).alloc (Nat.le_refl _) _).alloc (by simp) _).alloc (by simp; omega) _
  have bX : Box w.heap.size #[.slice a0 x.sure.length d0, .slice a1 x.loose.length d1] 48 (((w.alloc (.cells #[.slice a0 x.sure.length d0, .slice a1 x.loose.length d1] 48)).alloc (.cells #[.int .i64 y.kind, .int .i64 y.id, .slice a2 y.vec.length d2, .int .i64 y.session, .int .i64 y.seq] 58)).alloc (.cells #[.int .i64 0, .int .i64 0, .slice none 0 0, .slice none 0 0] 56)) w.heap.size := ((newBox (Nat.le_refl _)).grow _).grow _
  have bR : Box 0 #[.int .i64 0, .int .i64 0, .slice none 0 0, .slice none 0 0] 56 (((w.alloc (.cells #[.slice a0 x.sure.length d0, .slice a1 x.loose.length d1] 48)).alloc (.cells #[.int .i64 y.kind, .int .i64 y.id, .slice a2 y.vec.length d2, .int .i64 y.session, .int .i64 y.seq] 58)).alloc (.cells #[.int .i64 0, .int .i64 0, .slice none 0 0, .slice none 0 0] 56)) (w.heap.size + 2) := newBoxAt (Nat.zero_le _) (by simp)
  have HY0 : Hid (Box w.heap.size #[.int .i64 y.kind, .int .i64 y.id, .slice a2 y.vec.length d2, .int .i64 y.session, .int .i64 y.seq] 58 (((w.alloc (.cells #[.slice a0 x.sure.length d0, .slice a1 x.loose.length d1] 48)).alloc (.cells #[.int .i64 y.kind, .int .i64 y.id, .slice a2 y.vec.length d2, .int .i64 y.session, .int .i64 y.seq] 58)).alloc (.cells #[.int .i64 0, .int .i64 0, .slice none 0 0, .slice none 0 0] 56)) (w.heap.size + 1)) := (newBoxAt (by omega) (by simp)).grow _
  have HL := hide (implLogFault _ x _ (h.later nb) n1 n2)
  have H0 := hide R0
  have H1 := hide R1
  have HX0 := hide bX
  have HR0 := hide bR
  have HB0 := hide nb
  clear h nb bX bR R0 R1
  go_enter Try.func36, Try.ntmps36
  go_wp2_with fail
  generalize ((w.alloc (.cells #[.slice a0 x.sure.length d0, .slice a1 x.loose.length d1] 48)).alloc (.cells #[.int .i64 y.kind, .int .i64 y.id, .slice a2 y.vec.length d2, .int .i64 y.session, .int .i64 y.seq] 58)).alloc (.cells #[.int .i64 0, .int .i64 0, .slice none 0 0, .slice none 0 0] 56) = W0 at *
  refine (unhide HL).mono ?_
  rintro e W2 ⟨rfl, hb⟩
  have HX := hide ((unhide HX0).keep hb)
  have HR := hide ((unhide HR0).keep hb)
  have HB2 := hide ((unhide HB0).trans (hb.mono (unhide HB0).size))
  have HY2 := hide ((unhide HY0).keep hb)
  clear hb HL HX0 HR0 HB0
  by_cases hf : logFault x = 0
  · obtain ⟨hn, hs, hl⟩ := logFault_zero hf
    have HF := hide hf
    have HSU := hide hs
    have HLO := hide hl
    rw [hf]
    clear hf hs hl
    have bY := unhide HY2
    have v0 := bY.at 0 _ rfl
    have v1 := bY.at 1 _ rfl
    have v2 := bY.at 2 _ rfl
    have v3 := bY.at 3 _ rfl
    have v4 := bY.at 4 _ rfl
    simp only [List.getElem_toArray, List.getElem_cons_zero, List.getElem_cons_succ] at v0 v1 v2 v3 v4
    have hyl := bY.lt
    have LP := hide (implPack y.kind y.id _ y.session y.seq y.vec W2 (Lay.ints_reads ((unhide HV).later (unhide HB2))))
    have HPK : Hid (packList y.kind y.id y.vec y.session y.seq = packD y) := rfl
    have HWX : Hid (writeFault y.kind y.id y.vec y.session y.seq = wF y) := rfl
    rw [unhide HPK, unhide HWX] at LP
    clear bY HPK HWX
    go_wp2_with fail
    refine (unhide LP).mono ?_
    rintro e w3 ⟨r3, rfl, O3, hb3⟩
    obtain ⟨a4, c4, rfl⟩ := own_shape O3
    have hOI := Lay.ownInts (zs := packD y) (fun z hz => packList_wf z hz) (Nat.le_trans packList_len (by omega)) O3
    have nb5 : Below w3.heap.size w3 (w3.alloc (.cells #[.int .i64 (wF y), .slice a4 (packD y).length c4] 26)) := (Below.refl _ _).alloc (Nat.le_refl _) _
    have HP5 : Hid (Box 0 #[.int .i64 (wF y), .slice a4 (packD y).length c4] 26 (w3.alloc (.cells #[.int .i64 (wF y), .slice a4 (packD y).length c4] 26)) w3.heap.size) := newBox (Nat.zero_le _)
    have HG := hide (unhide HR).lt
    have hB35 := hb3.trans (nb5.mono hb3.size)
    have HX5 := hide ((unhide HX).keep hB35)
    have HR5 := hide ((unhide HR).keep hB35)
    have HB5 := hide ((unhide HB2).trans (hB35.mono (unhide HB2).size))
    have HPB : Hid (w.heap.size + 2 < w3.heap.size) := Nat.lt_of_lt_of_le (unhide HG) hb3.size
    have HPL := hide (hOI.lies.later nb5)
    have HPL8 : Hid ((packD y).length = if wF y = 0 then 8 else 0) := by
      show (packD y).length = _
      by_cases e : wF y = 0
      · rw [if_pos e, packD_len e]
      · rw [if_neg e, packD, packList, if_neg (show ¬ writeFault y.kind y.id y.vec y.session y.seq = 0 from e)]; rfl
    simp only [intsRes]
    clear LP O3 hOI hb3 nb5 hB35 HX HR HB2 v0 v1 v2 v3 v4 HY2 hyl
    have p0 := (unhide HP5).at 0 _ rfl
    simp only [List.getElem_toArray, List.getElem_cons_zero] at p0
    by_cases hy : wF y = 0
    · have h8 : (packD y).length = 8 := by rw [unhide HPL8, if_pos hy]
      have HP8 := hide h8
      have HPW : Hid (∀ z ∈ packD y, (Lit.int .i64 z).wf = true) := fun z hz => packList_wf z hz
      rw [h8] at HP5 HX5 HR5 HB5 HPL p0 ⊢
      by_cases hm : 320 ≤ x.sure.length + x.loose.length
      · have HY : Hid (appendLogR x y = badLog 2) := by show appendLogR x y = _; rw [appendLogR, if_pos (unhide HF), if_pos hy, if_pos hm]
        rw [hy] at HP5 HX5 HR5 HB5 HPL p0 ⊢
        have hd2 : decide ((x.sure.length : Int) + (x.loose.length : Int) + 8 > 320) = true := by simp; omega
        have x0 := (unhide HX5).at 0 _ rfl
        have x1 := (unhide HX5).at 1 _ rfl
        simp only [List.getElem_toArray, List.getElem_cons_zero, List.getElem_cons_succ] at x0 x1
        have HR := HR5
        have HB2 := HB5
        clear hy HF h8 HPL8 HP8
        have bR := unhide HR
        have z0 := bR.at 0 _ rfl
        have z1 := bR.at 1 _ rfl
        have z2 := bR.at 2 _ rfl
        have z3 := bR.at 3 _ rfl
        have ff := bR.soft
        have l0 := bR.lt
        simp only [List.getElem_toArray, List.getElem_cons_zero, List.getElem_cons_succ] at z0 z1 z2 z3
        clear bR
        go_wp2_with fail
        refine bodyPost_ret (v := .agg #[.int .i64 2, .int .i64 0, .slice none 0 0, .slice none 0 0]) (by simp [results, Try.results36, go_sem, z0, z1, z2, z3]) rfl ?_
        rw [unhide HY]
        have hB9 := below_setAll (unhide HB2) (w.heap.size + 2) 0 [.int .i64 2, .int .i64 0, .slice none 0 0, .slice none 0 0] (by omega)
        exact ⟨[.int .i64 2, .int .i64 0, .slice none 0 0, .slice none 0 0], rfl, own_badLog (by decide) (by have := hB9.size; exact this), hB9⟩
      · have HY : Hid (appendLogR x y = logOf x.sure (x.loose ++ packD y)) := by show appendLogR x y = _; rw [appendLogR, if_pos (unhide HF), if_pos hy, if_neg hm]
        rw [hy] at HP5 HX5 HR5 HB5 HPL p0 ⊢
        have hd2 : decide ((x.sure.length : Int) + (x.loose.length : Int) + 8 > 320) = false := by
          have h1 := unhide HSU
          have h2 := unhide HLO
          simp
          omega
        have HWA : Hid (∀ z ∈ x.loose ++ packD y, (Lit.int .i64 z).wf = true) := by
          intro z hz
          rcases List.mem_append.1 hz with hz | hz
          · exact (Lay.ints_reads (unhide H1)).wf z hz
          · exact unhide HPW z hz
        have x0 := (unhide HX5).at 0 _ rfl
        have x1 := (unhide HX5).at 1 _ rfl
        simp only [List.getElem_toArray, List.getElem_cons_zero, List.getElem_cons_succ] at x0 x1
        have hxl := (unhide HX5).lt
        clear hy HF h8 HPL8 HPW
        go_wp2_with fail
        clear x0 x1 p0
        generalize w3.alloc (.cells #[.int .i64 0, .slice a4 8 c4] 26) = W5 at *
        have hRD : Box 0 #[.int .i64 0, .int .i64 0, .slice none 0 0, .slice none 0 0] 56 W5.drew (w.heap.size + 2) := (unhide HR5).drew
        have hPD : (Lay.sl Lay.int).LiesIn W5.drew [.slice a4 8 c4] (packD y) W2.heap.size w3.heap.size := unhide HPL
        refine wp_region_noPanic ?_
        refine wp_region_held_drew (S := fun w' => Ext (fun q => q = w.heap.size + 2) W5 w') (by kernel_rfl) ⟨rfl, rfl, rfl, Nat.le_refl _, fun _ _ _ => rfl⟩ (fun hHeld => ?_)
        generalize W5.drew = wD at hHeld hRD hPD ⊢
        refine wpAnyH_take (i := 0) (oi := { dst := some 31, op := Go.Op.fieldAddr 48 (Go.Operand.tmp 2) 0, type := 0, pos := "l08_log.go:59", after := #[], guard := none }) (v := ?v0_1) rfl (by kernel_rfl) (by kernel_rfl) (by kernel_rfl) (fun _ _ _ h => h) (Or.inl ⟨by rfl, ?h0_1⟩) hHeld ?r0_1
        case h0_1 =>
          intro wS hSw
          (try dsimp only at hSw)
          go_simp
          try with_reducible rfl
        case r0_1 =>
        simp only [Act.put, List.setIfInBounds_toArray, List.set_cons_zero, List.set_cons_succ]
        refine wpAnyH_take (i := 1) (oi := { dst := some 32, op := Go.Op.load 24 (Go.Operand.tmp 31), type := 24, pos := "l08_log.go:59", after := #[{ on := 0, ground := Go.Ground.data }], guard := none }) (v := ?v1_2) rfl (by kernel_rfl) (by kernel_rfl) (by kernel_rfl) (fun _ _ _ h => h) (Or.inl ⟨by rfl, ?h1_2⟩) hHeld ?r1_2
        case h1_2 =>
          intro wS hSw
          have y0 := ((unhide HX5).ext hSw (by omega)).at 0 _ rfl
          simp only [List.getElem_toArray, List.getElem_cons_zero] at y0
          clear hSw
          (try dsimp only at hSw)
          go_simp
          try with_reducible rfl
        case r1_2 =>
        simp only [Act.put, List.setIfInBounds_toArray, List.set_cons_zero, List.set_cons_succ]
        refine wpAnyH_take (i := 3) (oi := { dst := some 34, op := Go.Op.fieldAddr 48 (Go.Operand.tmp 2) 1, type := 0, pos := "l08_log.go:59", after := #[], guard := none }) (v := ?v3_3) rfl (by kernel_rfl) (by kernel_rfl) (by kernel_rfl) (fun _ _ _ h => h) (Or.inl ⟨by rfl, ?h3_3⟩) hHeld ?r3_3
        case h3_3 =>
          intro wS hSw
          (try dsimp only at hSw)
          go_simp
          try with_reducible rfl
        case r3_3 =>
        simp only [Act.put, List.setIfInBounds_toArray, List.set_cons_zero, List.set_cons_succ]
        refine wpAnyH_take (i := 4) (oi := { dst := some 35, op := Go.Op.load 24 (Go.Operand.tmp 34), type := 24, pos := "l08_log.go:59", after := #[{ on := 3, ground := Go.Ground.data }], guard := none }) (v := ?v4_4) rfl (by kernel_rfl) (by kernel_rfl) (by kernel_rfl) (fun _ _ _ h => h) (Or.inl ⟨by rfl, ?h4_4⟩) hHeld ?r4_4
        case h4_4 =>
          intro wS hSw
          have y1 := ((unhide HX5).ext hSw (by omega)).at 1 _ rfl
          simp only [List.getElem_toArray, List.getElem_cons_zero, List.getElem_cons_succ] at y1
          clear hSw
          (try dsimp only at hSw)
          go_simp
          try with_reducible rfl
        case r4_4 =>
        simp only [Act.put, List.setIfInBounds_toArray, List.set_cons_zero, List.set_cons_succ]
        refine wpAnyH_take (i := 5) (oi := { dst := some 36, op := Go.Op.fieldAddr 26 (Go.Operand.tmp 6) 1, type := 0, pos := "l08_log.go:59", after := #[], guard := none }) (v := ?v5_5) rfl (by kernel_rfl) (by kernel_rfl) (by kernel_rfl) (fun _ _ _ h => h) (Or.inl ⟨by rfl, ?h5_5⟩) hHeld ?r5_5
        case h5_5 =>
          intro wS hSw
          (try dsimp only at hSw)
          go_simp
          try with_reducible rfl
        case r5_5 =>
        simp only [Act.put, List.setIfInBounds_toArray, List.set_cons_zero, List.set_cons_succ]
        refine wpAnyH_take (i := 6) (oi := { dst := some 37, op := Go.Op.load 24 (Go.Operand.tmp 36), type := 24, pos := "l08_log.go:59", after := #[{ on := 5, ground := Go.Ground.data }], guard := none }) (v := ?v6_6) rfl (by kernel_rfl) (by kernel_rfl) (by kernel_rfl) (fun _ _ _ h => h) (Or.inl ⟨by rfl, ?h6_6⟩) hHeld ?r6_6
        case h6_6 =>
          intro wS hSw
          have yp := ((unhide HP5).ext hSw (by have := unhide HPB; omega)).at 1 _ rfl
          simp only [List.getElem_toArray, List.getElem_cons_zero, List.getElem_cons_succ] at yp
          clear hSw
          (try dsimp only at hSw)
          go_simp
          try with_reducible rfl
        case r6_6 =>
        simp only [Act.put, List.setIfInBounds_toArray, List.set_cons_zero, List.set_cons_succ]
        refine wpAnyH_ready (rs := [2]) (by kernel_rfl) (by simp) ?_
        refine AllReadyH.cons (o := { dst := some 33, op := Go.Op.call { callee := Go.Callee.value (Go.Operand.func 68), args := #[Go.Operand.tmp 32], argTypes := #[24] }, type := 24, pos := "l08_log.go:59", after := #[{ on := 1, ground := Go.Ground.data }], guard := none }) rfl (fun K hK => ?_) AllReadyH.nil
        go_simp
        go_at_call 68
        have hWD := (unhide HB5).trans (hHeld.below (unhide HB5).size (fun q hq e => by omega))
        refine (cloneC _ x.sure _ ((unhide H0).later hWD) (by omega)).mono ?_
        rintro e w6 ⟨a6, n6, c6, rfl, O6, hbw⟩
        have HO6 := hide O6
        have hnb : n6 ≤ 10000000 := by have := O6.2; omega
        clear O6
        have hS6 := hHeld.trans (ext_of_below hbw _)
        have hW6 := hWD.trans (hbw.mono hWD.size)
        have bR6 := hRD.keep hbw
        have hzD := hRD.lt
        have hP6 := hPD.later hbw
        have hz6 := hbw.size
        try go_wp2_with fail
        refine hK.out _ _ hS6 (fun hHeld => ?_)
        clear hK K
        try simp only [Act.put, List.setIfInBounds_toArray, List.set_cons_zero, List.set_cons_succ]
        refine wpAnyH_ready (rs := [7]) (by kernel_rfl) (by simp) ?_
        refine AllReadyH.cons (o := { dst := some 38, op := Go.Op.call { callee := Go.Callee.value (Go.Operand.func 69), args := #[Go.Operand.tmp 35, Go.Operand.tmp 37], argTypes := #[24, 24] }, type := 24, pos := "l08_log.go:59", after := #[{ on := 4, ground := Go.Ground.data }, { on := 6, ground := Go.Ground.data }, { on := 2, ground := Go.Ground.chain }], guard := none }) rfl (fun K hK => ?_) AllReadyH.nil
        go_simp
        go_at_call 69
        refine (implJoined _ _ x.loose (packD y) w6 ((unhide H1).later hW6) hP6.reads (by omega) (by have := unhide HP8; omega)).mono ?_
        rintro e w7 ⟨m, hm, rfl, O7, hbw7⟩
        have hS7 := hS6.trans (ext_of_below hbw7 _)
        have hW7 := hW6.trans (hbw7.mono hW6.size)
        have bR7 := bR6.keep hbw7
        have hz7 := hbw7.size
        have hm8 : m = x.loose.length + 8 := by rw [hm, unhide HP8]
        have HM := hide hm
        have HM8 := hide hm8
        have hmb : m ≤ 1000 := by omega
        clear hm hm8
        try go_wp2_with fail
        refine hK.out _ _ hS7 (fun hHeld => ?_)
        clear hK K
        try simp only [Act.put, List.setIfInBounds_toArray, List.set_cons_zero, List.set_cons_succ]
        refine wpAnyH_take (i := 8) (oi := { dst := some 39, op := Go.Op.build 48 #[(0, Go.Operand.tmp 33), (1, Go.Operand.tmp 38)], type := 48, pos := "l08_log.go:59", after := #[{ on := 2, ground := Go.Ground.data }, { on := 7, ground := Go.Ground.data }], guard := none }) (v := ?v8_7) rfl (by kernel_rfl) (by kernel_rfl) (by kernel_rfl) (fun _ _ _ h => h) (Or.inl ⟨by rfl, ?h8_7⟩) hHeld ?r8_7
        case h8_7 =>
          intro wS hSw
          (try dsimp only at hSw)
          go_simp
          try with_reducible rfl
        case r8_7 =>
        simp only [Act.put, List.setIfInBounds_toArray, List.set_cons_zero, List.set_cons_succ]
        refine wpAnyH_ready (rs := [9]) (by kernel_rfl) (by simp) ?_
        refine AllReadyH.cons (o := { dst := some 40, op := Go.Op.call { callee := Go.Callee.value (Go.Operand.func 67), args := #[Go.Operand.tmp 39], argTypes := #[48] }, type := 56, pos := "l08_log.go:59", after := #[{ on := 8, ground := Go.Ground.data }, { on := 7, ground := Go.Ground.chain }], guard := none }) rfl (fun K hK => ?_) AllReadyH.nil
        go_simp
        go_at_call 67
        refine (implCounted a6 n6 c6 (some ⟨w6.heap.size, 0, none⟩) m m w7 (by omega) (by omega)).mono ?_
        rintro e w4 ⟨cn, hcn, rfl, hb4⟩
        have hS4 := hS7.trans (ext_of_below hb4 _)
        have bR := bR7.keep hb4
        have hH4 := hW7.trans (hb4.mono hW7.size)
        have hOW : Lay.tLogResult.OwnIn w4 [.int .i64 0, .int .i64 cn, .slice a6 n6 c6, .slice (some ⟨w6.heap.size, 0, none⟩) m m] (logOf x.sure (x.loose ++ packD y)) wD.heap.size w4.heap.size := by
          have hcw : (Lit.int .i64 cn).wf = true := by rw [hcn]; exact count_wf (by omega)
          have e : logOf x.sure (x.loose ++ packD y) = ⟨0, cn, ⟨x.sure, x.loose ++ packD y⟩⟩ := by rw [logOf, hcn, List.length_append, unhide HP8, unhide HM8, (unhide HO6).2]
          rw [e]
          have q1 := ((unhide HO6).1.later hbw7).later hb4
          have q2 := (Lay.ownInts (zs := x.loose ++ packD y) (unhide HWA) (by rw [List.length_append, unhide HP8]; omega) (by rw [List.length_append, ← unhide HM]; exact O7)).later hb4
          have hz8 := hb4.size
          exact own_logR (by decide) hcw q1 (q2.mono (Nat.le_refl _) hz8) (Nat.le_refl _) hz6 (by omega)
        have hlo : w.heap.size + 2 < wD.heap.size := hzD
        have hlo4 : w.heap.size ≤ wD.heap.size := by omega
        clear hcn
        try go_wp2_with fail
        refine hK.out _ _ hS4 (fun hHeld => ?_)
        clear hK K
        try simp only [Act.put, List.setIfInBounds_toArray, List.set_cons_zero, List.set_cons_succ]
        refine wpAnyH_ready (rs := [10]) (by kernel_rfl) (by simp) ?_
        refine AllReadyH.cons (o := { dst := none, op := Go.Op.store 56 (Go.Operand.tmp 4) (Go.Operand.tmp 40), type := 0, pos := "l08_log.go:59", after := #[{ on := 9, ground := Go.Ground.data }, { on := 9, ground := Go.Ground.chain }, { on := 0, ground := Go.Ground.phase }, { on := 1, ground := Go.Ground.phase }, { on := 2, ground := Go.Ground.phase }, { on := 3, ground := Go.Ground.phase }, { on := 4, ground := Go.Ground.phase }, { on := 5, ground := Go.Ground.phase }, { on := 6, ground := Go.Ground.phase }, { on := 7, ground := Go.Ground.phase }, { on := 8, ground := Go.Ground.phase }, { on := 9, ground := Go.Ground.phase }], guard := none }) rfl (fun K hK => ?_) AllReadyH.nil
        have z0 := bR.at 0 _ rfl
        have z1 := bR.at 1 _ rfl
        have z2 := bR.at 2 _ rfl
        have z3 := bR.at 3 _ rfl
        have ff := bR.soft
        have l0 := bR.lt
        simp only [List.getElem_toArray, List.getElem_cons_zero, List.getElem_cons_succ] at z0 z1 z2 z3
        have hfin := own_store' (s := w.heap.size + 2) (vs := [.int .i64 0, .int .i64 cn, .slice a6 n6 c6, .slice (some ⟨w6.heap.size, 0, none⟩) m m]) hOW hlo
        have hbfin := below_setAll hH4 (w.heap.size + 2) 0 [.int .i64 0, .int .i64 cn, .slice a6 n6 c6, .slice (some ⟨w6.heap.size, 0, none⟩) m m] (by omega)
        have hsfin := size_setAll w4 (w.heap.size + 2) 0 [.int .i64 0, .int .i64 cn, .slice a6 n6 c6, .slice (some ⟨w6.heap.size, 0, none⟩) m m]
        go_simp
        try go_wp2_with fail
        refine hK.out _ _ (ext_setAll (fun q => q = w.heap.size + 2) hS4 (w.heap.size + 2) 0 [.int .i64 0, .int .i64 cn, .slice a6 n6 c6, .slice (some ⟨w6.heap.size, 0, none⟩) m m] rfl) (fun hHeld => ?_)
        clear hK K
        try simp only [Act.put, List.setIfInBounds_toArray, List.set_cons_zero, List.set_cons_succ]
        refine wpAnyH_done (by kernel_rfl) ?_ _
        refine NoPanic.normal ?_
        clear hHeld
        have HFIN := hide hfin
        have HBF := hide hbfin
        have HSF := hide hsfin
        have HLO4 := hide hlo4
        clear hfin hbfin hsfin hOW hH4 bR hlo hlo4 HO6 O7 hS4 hS6 hS7 hbw hbw7 hb4 bR6 bR7 hRD hPD hP6
        go_wp2_with fail
        refine bodyPost_ret (v := .agg #[.int .i64 0, .int .i64 cn, .slice a6 n6 c6, .slice (some ⟨w6.heap.size, 0, none⟩) m m]) (by simp [results, Try.results36, go_sem, z0, z1, z2, z3]) rfl ?_
        rw [unhide HY]
        refine ⟨[.int .i64 0, .int .i64 cn, .slice a6 n6 c6, .slice (some ⟨w6.heap.size, 0, none⟩) m m], rfl, ?_, unhide HBF⟩
        refine (unhide HFIN).mono (unhide HLO4) ?_
        exact Nat.le_of_eq (unhide HSF).symm
    · have hd2 : (wF y != 0) = true := by simpa using hy
      have HY : Hid (appendLogR x y = badLog (wF y)) := by show appendLogR x y = _; rw [appendLogR, if_pos (unhide HF), if_neg hy]
      have HW := hide (wF_wf y)
      have HR := HR5
      have HB2 := HB5
      clear HF hy HPL HPL8 HP5 HX5
      generalize wF y = c at *
      have bR := unhide HR
      have z0 := bR.at 0 _ rfl
      have z1 := bR.at 1 _ rfl
      have z2 := bR.at 2 _ rfl
      have z3 := bR.at 3 _ rfl
      have ff := bR.soft
      have l0 := bR.lt
      simp only [List.getElem_toArray, List.getElem_cons_zero, List.getElem_cons_succ] at z0 z1 z2 z3
      clear bR
      go_wp2_with fail
      refine bodyPost_ret (v := .agg #[.int .i64 c, .int .i64 0, .slice none 0 0, .slice none 0 0]) (by simp [results, Try.results36, go_sem, z0, z1, z2, z3]) rfl ?_
      rw [unhide HY]
      have hB9 := below_setAll (unhide HB2) (w.heap.size + 2) 0 [.int .i64 c, .int .i64 0, .slice none 0 0, .slice none 0 0] (by omega)
      exact ⟨[.int .i64 c, .int .i64 0, .slice none 0 0, .slice none 0 0], rfl, own_badLog (unhide HW) (by have := hB9.size; exact this), hB9⟩
  · have hd : (logFault x != 0) = true := by simpa using hf
    have HY : Hid (appendLogR x y = badLog (logFault x)) := by show appendLogR x y = _; rw [appendLogR, if_neg hf]
    have HW := hide (logFault_wf x)
    generalize logFault x = c at *
    clear hf
    have bR := unhide HR
    have z0 := bR.at 0 _ rfl
    have z1 := bR.at 1 _ rfl
    have z2 := bR.at 2 _ rfl
    have z3 := bR.at 3 _ rfl
    have ff := bR.soft
    have l0 := bR.lt
    simp only [List.getElem_toArray, List.getElem_cons_zero, List.getElem_cons_succ] at z0 z1 z2 z3
    clear bR
    go_wp2_with fail
    refine bodyPost_ret (v := .agg #[.int .i64 c, .int .i64 0, .slice none 0 0, .slice none 0 0]) (by simp [results, Try.results36, go_sem, z0, z1, z2, z3]) rfl ?_
    rw [unhide HY]
    have hB9 := below_setAll (unhide HB2) (w.heap.size + 2) 0 [.int .i64 c, .int .i64 0, .slice none 0 0, .slice none 0 0] (by omega)
    exact ⟨[.int .i64 c, .int .i64 0, .slice none 0 0, .slice none 0 0], rfl, own_badLog (unhide HW) (by have := hB9.size; exact this), hB9⟩

end Go.Proofs.Ytipomhpimmnchaa

namespace Go.Proofs.Ytipomhpimmnchaa
open Go.RowKit

theorem vec_small {x : DWrite} (h : wF x = 0) : x.vec.length ≤ 3 := by
  obtain ⟨-, -, -, hk⟩ := writeFault_zero h
  rcases hk with ⟨-, hv⟩ | ⟨-, hv⟩
  · have := (vecFault_zero hv).1; omega
  · rw [hv]; simp
theorem ints_cnt (l : List Int) : cntAll Lay.int.cnt l = l.length := by
  induction l with
  | nil => rfl
  | cons y ys ih => simp only [cntAll, List.length_cons, ih]; show 1 + ys.length = _; omega
theorem writes_small {ws : List DWrite} (h : ∀ x ∈ ws, wF x = 0) : cntAll Lay.tWrite.cnt ws ≤ 10 * ws.length := by
  induction ws with
  | nil => simp [cntAll]
  | cons x xs ih =>
    have h1 := ih fun y hy => h y (List.mem_cons_of_mem _ hy)
    have h2 := vec_small (h x (by simp))
    have h3 : Lay.tWrite.cnt x = x.vec.length + 4 := by
      have e := ints_cnt x.vec
      show 1 + (1 + (cntAll Lay.int.cnt x.vec + (1 + 1))) = _
      omega
    simp only [cntAll, List.length_cons]
    omega
theorem readLog_few (zs : List Int) : Lay.tWritesResult.vcnt (readLogR zs) ≤ 100000000 := by
  rw [vcnt_WritesResult]
  show cntAll Lay.tWrite.cnt (readLogR zs).writes ≤ 100000000
  unfold readLogR
  split
  · exact Nat.zero_le _
  · have h1 := writes_small (readL_right zs)
    have h2 := cnt_le zs
    rw [read_len] at h1
    show cntAll Lay.tWrite.cnt (readL zs) ≤ 100000000
    omega
theorem packAll_few (ws : List DWrite) : Lay.tIntsResult.vcnt (packAllR ws) ≤ 100000000 := by
  rw [vcnt_IntsResult]
  show cntAll Lay.int.cnt (packAllR ws).list ≤ 100000000
  rw [ints_cnt]
  unfold packAllR
  split
  · exact Nat.zero_le _
  · split
    · rename_i h
      show (packs ws).length ≤ _
      rw [packs_len ws (wsFrom_zero h)]
      omega
    · exact Nat.zero_le _
theorem log_few (y : DLogResult) (h : y.log.sure.length + y.log.loose.length ≤ 100000000) : Lay.tLogResult.vcnt y ≤ 100000000 := by
  rw [vcnt_LogResult]
  show cntAll Lay.int.cnt y.log.sure + cntAll Lay.int.cnt y.log.loose ≤ 100000000
  rw [ints_cnt, ints_cnt]
  exact h

end Go.Proofs.Ytipomhpimmnchaa

namespace Go.Proofs.Ytipomhpimmnchaa
open Go.RowKit

theorem appendLog_few {x : DLog} {y : DWrite} : Lay.tLogResult.vcnt (appendLogR x y) ≤ 100000000 := by
  refine log_few _ ?_
  unfold appendLogR
  split
  · split
    · rename_i hy
      split
      · simp [badLog, noLog]
      · simp only [logOf, List.length_append, packD_len hy]; omega
    · simp [badLog, noLog]
  · simp [badLog, noLog]
theorem lawAppendLog (cs : List Value) (x : DLog) (ys : List Value) (y : DWrite) (w : World) (h : Lay.tLog.Reads w cs x) (h2 : Lay.tWrite.Reads w ys y) :
    Calls Try.prog 6 #[.agg cs.toArray, .agg ys.toArray] w fun e w' => e = .returned (.bool true) ∧ Below w.heap.size w w' := by
  by_cases hn : Lay.tLog.sz x + Lay.tWrite.sz y ≤ 1048576
  · obtain ⟨n1, n2⟩ := sz_log (x := x) (by omega)
    exact lawx_AppendLog cs x ys y (appendLogR x y) w h h2 hn (fun W a b ha hb => specAppendLog a x b y W ha hb n1 n2) (fun W a b ha hb => implAppendLog a x b y W ha hb n1 n2) appendLog_few
  · exact lawover_AppendLog cs x ys y w h h2 (by omega)

end Go.Proofs.Ytipomhpimmnchaa

namespace Go.Proofs.Ytipomhpimmnchaa
open Go.RowKit Go.ChangeShapes Go.WideShapes

/-- Whatever reads as data of the type t lies as A says. -/
def Opens {α : Type} (A : Lay α) (t : TypeId) : Prop :=
  ∀ {H : Type} (enc : TypeId × Value → H) (W : World) (base : Nat) (spare : Nat → Bool) (held : Bool) (fuel : Nat) (cs : List Value) (x : DataW H × List MemPlace), DataW.trod enc Try.prog W base spare held fuel t cs = some x → ∃ y, A.Reads W cs y

theorem reads_pair {α β : Type} {A : Lay α} {B : Lay β} {W : World} {c1 c2 : List Value} {x : α} {y : β} (h : A.Reads W c1 x) (k : B.Reads W c2 y) : (Lay.pair A B).Reads W (c1 ++ c2) (x, y) := by
  obtain ⟨b1, h⟩ := h
  obtain ⟨b2, k⟩ := k
  exact ⟨b1 ++ b2, c1, c2, b1, b2, rfl, rfl, h, k⟩

theorem opens_int {t : TypeId} (ht : Try.prog.underlying t = some (.int .i64)) : Opens Lay.int t := by
  intro H enc W base spare held fuel cs x h
  obtain ⟨n, rfl, -, hw⟩ := DataW.trod_int ht h
  exact ⟨n, [], rfl, hw, rfl⟩
theorem opens_bool {t : TypeId} (ht : Try.prog.underlying t = some .bool) : Opens Lay.bool t := by
  intro H enc W base spare held fuel cs x h
  obtain ⟨b, rfl, -⟩ := DataW.trod_bool ht h
  exact ⟨b, [], rfl, rfl⟩
theorem opens_str {t : TypeId} (ht : Try.prog.underlying t = some .string) : Opens Lay.str t := by
  intro H enc W base spare held fuel cs x h
  obtain ⟨s, rfl, -, -⟩ := DataW.trod_string ht h
  exact ⟨s, [], rfl, rfl⟩

theorem opens_sl {α : Type} {A : Lay α} {t e : TypeId} (ht : Try.prog.underlying t = some (.slice e)) (hn : Try.prog.cellsOf e = A.n) (h0 : 0 < A.n) (h : Opens A e) : Opens (Lay.sl A) t := by
  intro H enc W base spare held fuel cs x hx
  rcases Go.Deep.open_slice ht hx with ⟨rfl, -⟩ | ⟨a, len, cap, m, n, D, Pl, rfl, hb, hl, hm, hmm, -, hel⟩
  · exact ⟨[], [], none, 0, rfl, ⟨Nat.le_refl _, by simp⟩, Or.inl ⟨rfl, rfl⟩⟩
  · have hlm : len ≤ m := by rw [hmm]; split <;> omega
    rw [hn] at hel
    have each : ∀ i, i < len → ∃ q : List Value × α, (∀ j, j < A.n → W.cell? (a.add (i * A.n + j)) = q.1[j]?) ∧ q.1.length = A.n ∧ A.Reads W q.1 q.2 := by
      intro i hi
      obtain ⟨cs', h1, h2⟩ := hel i (by omega)
      obtain ⟨-, hlen, hc⟩ := World.cells?_some h1
      obtain ⟨y, hy⟩ := h enc W base spare held n cs' _ h2
      refine ⟨(cs', y), fun j hj => ?_, hlen, hy⟩
      have := hc j hj
      rw [Addr.add_add] at this
      exact this
    by_cases hp : 0 < len
    · obtain ⟨b, off, spot⟩ := a
      obtain ⟨q0, c0, l0, -⟩ := each 0 hp
      have hc0 := c0 0 h0
      have hs0 : ∃ v, W.cell? ((⟨b, off, spot⟩ : Addr).add (0 * A.n + 0)) = some v := ⟨_, hc0.trans (List.getElem?_eq_getElem (by omega))⟩
      obtain ⟨v0, hv0⟩ := hs0
      have hspot : spot = none := by simpa [Addr.add] using World.cell?_spot hv0
      subst hspot
      have hbl : b < W.heap.size := by
        have := World.block_lt_of_cell? _ _ hv0
        simpa [Addr.add] using this
      have pick : ∃ f : (i : Nat) → i < len → List Value × α, ∀ i (hi : i < len), (∀ j, j < A.n → W.cell? ((⟨b, off, none⟩ : Addr).add (i * A.n + j)) = (f i hi).1[j]?) ∧ (f i hi).1.length = A.n ∧ A.Reads W (f i hi).1 (f i hi).2 :=
        ⟨fun i hi => Classical.choose (each i hi), fun i hi => Classical.choose_spec (each i hi)⟩
      obtain ⟨f, hf⟩ := pick
      have pick2 : ∃ g : (i : Nat) → i < len → List Nat, ∀ i (hi : i < len), A.lies W (f i hi).1 (f i hi).2 (g i hi) :=
        ⟨fun i hi => Classical.choose (hf i hi).2.2, fun i hi => Classical.choose_spec (hf i hi).2.2⟩
      obtain ⟨g, hg⟩ := pick2
      refine ⟨(List.finRange len).map (fun i => (f i.1 i.2).2), b :: ((List.finRange len).map (fun i => g i.1 i.2)).flatten, some ⟨b, off, none⟩, cap, by simp, ⟨by simpa using hl, by simp; unfold maxLen at hm; omega⟩, Or.inr ⟨b, off, (List.finRange len).map (fun i => (f i.1 i.2).1), (List.finRange len).map (fun i => g i.1 i.2), rfl, hbl, rfl, by simp, by simp, fun j h1 h2 h3 => ?_⟩⟩
      have hj : j < len := by simpa using h1
      refine ⟨fun k hk => ?_, ?_⟩
      · have := (hf j hj).1 k hk
        rw [Addr.add_lit] at this
        simpa [Nat.add_assoc] using this
      · simpa using hg j hj
    · obtain rfl : len = 0 := by omega
      exact ⟨[], [], some a, cap, rfl, ⟨hl, by simp⟩, Or.inl ⟨rfl, rfl⟩⟩

theorem open_arg {α : Type} {A : Lay α} {t : TypeId} (O : Opens A t) {H : Type} {enc : TypeId × Value → H} {W : World} {base : Nat} {spare : Nat → Bool} {held : Bool} {a : Option Addr} {len cap : Nat} {d : DataW H} {p : List MemPlace}
    (h : DataW.Trod enc Try.prog W base spare held t (.slice a len cap) d p) : ∃ y, A.Reads W [.slice a len cap] y := by
  obtain ⟨fuel, hf⟩ := h
  exact O enc W base spare held fuel _ _ (by simpa [Value.cells] using hf)
theorem open_arg_st {α : Type} {A : Lay α} {t : TypeId} (O : Opens A t) {H : Type} {enc : TypeId × Value → H} {W : World} {base : Nat} {spare : Nat → Bool} {held : Bool} {cs : Array Value} {d : DataW H} {p : List MemPlace}
    (h : DataW.Trod enc Try.prog W base spare held t (.agg cs) d p) : ∃ y, A.Reads W cs.toList y := by
  obtain ⟨fuel, hf⟩ := h
  exact O enc W base spare held fuel _ _ (by simpa [Value.cells] using hf)

end Go.Proofs.Ytipomhpimmnchaa

namespace Go.Proofs.Ytipomhpimmnchaa
open Go.RowKit

set_option maxRecDepth 10000 in
theorem opens_Log : Opens Lay.tLog 45 := by
  intro H enc W base spare held fuel cs x h
  obtain ⟨xs, n, _, _, hlen, hl, hfi⟩ := DataW.trod_struct Try.underlying45 h
  rw [show Try.prog.cellsOf 45 = 2 by kernel_rfl] at hlen
  match cs, hlen with
  | [c0, c1], _ =>
  match xs, hl with
  | [y0, y1], _ =>
  have z0 : Try.prog.cellsOf 24 = 1 := by kernel_rfl
  have f0 : DataW.trod enc Try.prog W base spare held n 24 (([c0, c1].drop 0).take (Try.prog.cellsOf 24)) = some y0 := hfi 0 _ rfl
  rw [z0] at f0
  obtain ⟨d0, r0⟩ := (opens_sl Try.underlying24 (by kernel_rfl) (by decide) (opens_int Try.underlying2)) enc W base spare held n _ _ f0
  have f1 : DataW.trod enc Try.prog W base spare held n 24 (([c0, c1].drop 1).take (Try.prog.cellsOf 24)) = some y1 := hfi 1 _ rfl
  rw [z0] at f1
  obtain ⟨d1, r1⟩ := (opens_sl Try.underlying24 (by kernel_rfl) (by decide) (opens_int Try.underlying2)) enc W base spare held n _ _ f1
  exact ⟨⟨d0, d1⟩, (reads_pair r0 r1)⟩

end Go.Proofs.Ytipomhpimmnchaa

namespace Go.Proofs.Ytipomhpimmnchaa
open Go.RowKit

set_option maxRecDepth 10000 in
theorem opens_Write : Opens Lay.tWrite 53 := by
  intro H enc W base spare held fuel cs x h
  obtain ⟨xs, n, _, _, hlen, hl, hfi⟩ := DataW.trod_struct Try.underlying53 h
  rw [show Try.prog.cellsOf 53 = 5 by kernel_rfl] at hlen
  match cs, hlen with
  | [c0, c1, c2, c3, c4], _ =>
  match xs, hl with
  | [y0, y1, y2, y3, y4], _ =>
  have z0 : Try.prog.cellsOf 2 = 1 := by kernel_rfl
  have z1 : Try.prog.cellsOf 24 = 1 := by kernel_rfl
  have f0 : DataW.trod enc Try.prog W base spare held n 2 (([c0, c1, c2, c3, c4].drop 0).take (Try.prog.cellsOf 2)) = some y0 := hfi 0 _ rfl
  rw [z0] at f0
  obtain ⟨d0, r0⟩ := (opens_int Try.underlying2) enc W base spare held n _ _ f0
  have f1 : DataW.trod enc Try.prog W base spare held n 2 (([c0, c1, c2, c3, c4].drop 1).take (Try.prog.cellsOf 2)) = some y1 := hfi 1 _ rfl
  rw [z0] at f1
  obtain ⟨d1, r1⟩ := (opens_int Try.underlying2) enc W base spare held n _ _ f1
  have f2 : DataW.trod enc Try.prog W base spare held n 24 (([c0, c1, c2, c3, c4].drop 2).take (Try.prog.cellsOf 24)) = some y2 := hfi 2 _ rfl
  rw [z1] at f2
  obtain ⟨d2, r2⟩ := (opens_sl Try.underlying24 (by kernel_rfl) (by decide) (opens_int Try.underlying2)) enc W base spare held n _ _ f2
  have f3 : DataW.trod enc Try.prog W base spare held n 2 (([c0, c1, c2, c3, c4].drop 3).take (Try.prog.cellsOf 2)) = some y3 := hfi 3 _ rfl
  rw [z0] at f3
  obtain ⟨d3, r3⟩ := (opens_int Try.underlying2) enc W base spare held n _ _ f3
  have f4 : DataW.trod enc Try.prog W base spare held n 2 (([c0, c1, c2, c3, c4].drop 4).take (Try.prog.cellsOf 2)) = some y4 := hfi 4 _ rfl
  rw [z0] at f4
  obtain ⟨d4, r4⟩ := (opens_int Try.underlying2) enc W base spare held n _ _ f4
  exact ⟨⟨d0, d1, d2, d3, d4⟩, (reads_pair r0 (reads_pair r1 (reads_pair r2 (reads_pair r3 r4))))⟩

end Go.Proofs.Ytipomhpimmnchaa
