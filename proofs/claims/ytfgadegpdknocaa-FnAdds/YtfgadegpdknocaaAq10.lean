/-
  The program's indexOf: the index of right items by right centers, in memory of its own; nothing old is written.
  Condition: the centers and the items have no fault.
-/
import Derived.Test.YtfgadegpdknocaaAq07
import Derived.Test.YtfgadegpdknocaaAq03
import Derived.Test.YtfgadegpdknocaaAq09

namespace Go.Proofs.Ytfgadegpdknocaa
open Go.RowKit

theorem mine_put (cs : List DCenter) (xs : List DItem) (i k : Nat) (h : k < xs.length) : (if i = near cs xs[k].vec then mineI cs (xs.take k) (near cs xs[k].vec) ++ [⟨xs[k].id, xs[k].vec⟩] else mineI cs (xs.take k) i) = mineI cs (xs.take (k + 1)) i := by
  rw [mineI_step cs xs i k h]
  by_cases e : i = near cs xs[k].vec
  · rw [if_pos e, if_pos (by rw [e]; exact beq_self_eq_true _), e]
  · have h3 : ¬ ((near cs xs[k].vec == i) = true) := fun h2 => e (eq_of_beq h2).symm
    rw [if_neg e, if_neg h3]
theorem infoCenI : (Try.prog.info? 104).map (fun i => (i.zero, i.size, i.bytes)) = some (some (.agg #[.slice none 0 0]), 1, 24) := by kernel_rfl
theorem infoListI : (Try.prog.info? 147).map (fun i => (i.zero, i.size, i.bytes)) = some (some (.agg #[.slice none 0 0]), 1, 24) := by kernel_rfl

set_option maxRecDepth 100000 in
set_option maxHeartbeats 8000000 in
theorem implIndex (ac : Option Addr) (dc : Nat) (cs : List DCenter) (ax : Option Addr) (dx : Nat) (xs : List DItem) (w : World) (h1 : (Lay.sl Lay.tCenter).Reads w [.slice ac cs.length dc] cs) (h2 : (Lay.sl Lay.tItem).Reads w [.slice ax xs.length dx] xs) (hf : centersFault cs = 0) (hx : Right xs) :
    Calls Try.prog 66 #[.slice ac cs.length dc, .slice ax xs.length dx] w fun e w' => ∃ sc sl, e = .returned (.agg #[sc, sl]) ∧ (∃ a n c, sc = .slice a n c) ∧ (∃ a n c, sl = .slice a n c) ∧ Lay.tIvf.OwnIn w' [sc, sl] (buildI cs xs) w.heap.size w'.heap.size ∧ Below w.heap.size w w' := by
  have hn6 : cs.length ≤ 6 := (centersFault_zero hf).1.2
  have hn1 : 1 ≤ cs.length := (centersFault_zero hf).1.1
  have nb : Below w.heap.size w (w.alloc (.cells #[.slice none 0 0, .slice none 0 0] 31)) := (Below.refl _ _).alloc (Nat.le_refl _) _
  have bR : Box w.heap.size #[.slice none 0 0, .slice none 0 0] 31 (w.alloc (.cells #[.slice none 0 0, .slice none 0 0] 31)) w.heap.size := newBox (Nat.le_refl _)
  obtain ⟨iC, hiC, hzC0, hzC1, hzC2⟩ := info_parts infoCenI
  obtain ⟨iL, hiL, hzL0, hzL1, hzL2⟩ := info_parts infoListI
  have H1 := hide (h1.later nb)
  have H2 := hide (h2.later nb)
  have HCF := hide hf
  have HXR := hide hx
  have HB := hide nb
  have HR := hide bR
  clear h1 h2 hf hx nb bR
  go_enter Try.func66, Try.ntmps66
  go_wp2_with fail
  generalize w.alloc (.cells #[.slice none 0 0, .slice none 0 0] 31) = w1 at *
  have hD0 : w1.heap.size ≤ w1.drew.heap.size := Nat.le_refl _
  refine wp_mono (Q := fun e a' w' => e = .normal ∧ ∃ GC GL BX, a' = { tmps := #[.slice ac cs.length dc, .slice ax xs.length dx, undef, undef, .pointer (some ⟨w.heap.size, 0, none⟩), .pointer (some ⟨BX, 0, none⟩), undef, undef, undef, undef, undef, undef, undef, .slice ac cs.length dc, .int .i64 (cs.length : Int), .slice (some ⟨GC, 0, none⟩) cs.length cs.length, .slice ac cs.length dc, .int .i64 (cs.length : Int), .slice (some ⟨GL, 0, none⟩) cs.length cs.length, .agg #[.slice (some ⟨GC, 0, none⟩) cs.length cs.length, .slice (some ⟨GL, 0, none⟩) cs.length cs.length], undef, undef, undef, undef, undef, undef, undef, undef, undef, undef, undef, undef, undef, undef, undef, undef, undef, undef, undef, undef, undef, undef, undef, undef, undef, undef, undef, undef, undef, undef, undef, undef, undef, undef, undef, undef, undef, undef, undef, undef, undef, undef, undef, undef, undef, undef, undef, undef, undef, undef, undef], defers := [] } ∧ Box 0 #[.slice (some ⟨GC, 0, none⟩) cs.length cs.length, .slice (some ⟨GL, 0, none⟩) cs.length cs.length] 31 w' BX ∧ w'.ownsRow GC 104 1 (.slice (some ⟨GC, 0, none⟩) cs.length cs.length) cs.length (List.replicate cs.length (.slice none 0 0)) ∧ w'.ownsRow GL 147 1 (.slice (some ⟨GL, 0, none⟩) cs.length cs.length) cs.length (List.replicate cs.length (.slice none 0 0)) ∧ ((w1.heap.size ≤ GC ∧ w1.heap.size ≤ GL ∧ w1.heap.size ≤ BX) ∧ GC ≠ GL ∧ BX ≠ GC ∧ BX ≠ GL) ∧ Below w1.heap.size w1 w') ?reg ?after
  case reg =>
    refine wp_region_noPanic ?_
    refine wp_region_held_drew (S := fun w' => Below w1.heap.size w1 w') (by kernel_rfl) (Below.refl _ _).drew (fun hHeld => ?_)
    generalize w1.drew = wD at hHeld hD0 ⊢
    refine wpAnyH_take (i := 0) (oi := { dst := some 13, op := Go.Op.move (Go.Operand.tmp 0), type := 28, pos := "l07_ivf.go:132", after := #[], guard := none }) (v := ?vr0_1) rfl (by kernel_rfl) (by kernel_rfl) (by kernel_rfl) (fun _ _ _ h => h) (Or.inl ⟨by rfl, ?hr0_1⟩) hHeld ?rr0_1
    case hr0_1 =>
      intro wS hSw
      (try dsimp only at hSw)
      go_simp
      try with_reducible rfl
    case rr0_1 =>
    simp only [Act.put, List.setIfInBounds_toArray, List.set_cons_zero, List.set_cons_succ]
    refine wpAnyH_take (i := 1) (oi := { dst := some 14, op := Go.Op.call { callee := Go.Callee.builtin Go.Builtin.len, args := #[Go.Operand.tmp 13], argTypes := #[28] }, type := 3, pos := "l07_ivf.go:132", after := #[{ on := 0, ground := Go.Ground.data }], guard := none }) (v := ?vr1_2) rfl (by kernel_rfl) (by kernel_rfl) (by kernel_rfl) (fun _ _ _ h => h) (Or.inl ⟨by rfl, ?hr1_2⟩) hHeld ?rr1_2
    case hr1_2 =>
      intro wS hSw
      (try dsimp only at hSw)
      go_simp
      try with_reducible rfl
    case rr1_2 =>
    simp only [Act.put, List.setIfInBounds_toArray, List.set_cons_zero, List.set_cons_succ]
    refine wpAnyH_take (i := 3) (oi := { dst := some 16, op := Go.Op.move (Go.Operand.tmp 0), type := 28, pos := "l07_ivf.go:132", after := #[], guard := none }) (v := ?vr3_3) rfl (by kernel_rfl) (by kernel_rfl) (by kernel_rfl) (fun _ _ _ h => h) (Or.inl ⟨by rfl, ?hr3_3⟩) hHeld ?rr3_3
    case hr3_3 =>
      intro wS hSw
      (try dsimp only at hSw)
      go_simp
      try with_reducible rfl
    case rr3_3 =>
    simp only [Act.put, List.setIfInBounds_toArray, List.set_cons_zero, List.set_cons_succ]
    refine wpAnyH_take (i := 4) (oi := { dst := some 17, op := Go.Op.call { callee := Go.Callee.builtin Go.Builtin.len, args := #[Go.Operand.tmp 16], argTypes := #[28] }, type := 3, pos := "l07_ivf.go:132", after := #[{ on := 3, ground := Go.Ground.data }], guard := none }) (v := ?vr4_4) rfl (by kernel_rfl) (by kernel_rfl) (by kernel_rfl) (fun _ _ _ h => h) (Or.inl ⟨by rfl, ?hr4_4⟩) hHeld ?rr4_4
    case hr4_4 =>
      intro wS hSw
      (try dsimp only at hSw)
      go_simp
      try with_reducible rfl
    case rr4_4 =>
    simp only [Act.put, List.setIfInBounds_toArray, List.set_cons_zero, List.set_cons_succ]
    refine wpAnyH_ready (rs := [2, 5, 7]) (by kernel_rfl) (by simp) ?_
    refine AllReadyH.cons (o := { dst := some 15, op := Go.Op.makeSlice 28 (Go.Operand.tmp 14) (Go.Operand.tmp 14), type := 28, pos := "l07_ivf.go:132", after := #[{ on := 1, ground := Go.Ground.data }, { on := 1, ground := Go.Ground.data }], guard := none }) rfl (fun K hK => ?or2_5) (AllReadyH.cons (o := { dst := some 18, op := Go.Op.makeSlice 29 (Go.Operand.tmp 17) (Go.Operand.tmp 17), type := 29, pos := "l07_ivf.go:132", after := #[{ on := 4, ground := Go.Ground.data }, { on := 4, ground := Go.Ground.data }], guard := none }) rfl (fun K hK => ?or5_5) (AllReadyH.cons (o := { dst := some 5, op := Go.Op.alloc 31, type := 0, pos := "l07_ivf.go:132", after := #[], guard := none }) rfl (fun K hK => ?or7_5) (AllReadyH.nil)))
    case or2_5 =>
      refine step_make_full _ rfl _ _ 28 rfl _ 104 iC _ 1 Try.underlying28 hiC hzC0 hzC1 _ _ _ _ cs.length rfl rfl rfl rfl (by rw [hzC2]; omega) (by unfold maxLen; omega) (Nat.le_refl _) ?_
      rintro wC hoC hgC
      rw [made_nil] at hoC
      have hbC : Below wD.heap.size wD wC := (Below.refl _ _).grown hgC (Nat.le_refl _) (by simp)
      have lC : wD.heap.size < wC.heap.size := (hoC.lt _ rfl).2
      have sC := hbC.size
      refine hK.out _ _ (hHeld.trans (hbC.mono hHeld.size)) (fun hHeld => ?_)
      clear hK K
      try simp only [Act.put, List.setIfInBounds_toArray, List.set_cons_zero, List.set_cons_succ]
      refine wpAnyH_ready (rs := [5, 7]) (by kernel_rfl) (by simp) ?_
      refine AllReadyH.cons (o := { dst := some 18, op := Go.Op.makeSlice 29 (Go.Operand.tmp 17) (Go.Operand.tmp 17), type := 29, pos := "l07_ivf.go:132", after := #[{ on := 4, ground := Go.Ground.data }, { on := 4, ground := Go.Ground.data }], guard := none }) rfl (fun K hK => ?or5_6) (AllReadyH.cons (o := { dst := some 5, op := Go.Op.alloc 31, type := 0, pos := "l07_ivf.go:132", after := #[], guard := none }) rfl (fun K hK => ?or7_6) (AllReadyH.nil))
      case or5_6 =>
        refine step_make_full _ rfl _ _ 29 rfl _ 147 iL _ 1 Try.underlying29 hiL hzL0 hzL1 _ _ _ _ cs.length rfl rfl rfl rfl (by rw [hzL2]; omega) (by unfold maxLen; omega) (Nat.le_refl _) ?_
        rintro wL hoL hgL
        rw [made_nil] at hoL
        have hbL : Below wC.heap.size wC wL := (Below.refl _ _).grown hgL (Nat.le_refl _) (by simp)
        have lL : wC.heap.size < wL.heap.size := (hoL.lt _ rfl).2
        have sL := hbL.size
        replace hoC := own_below hoC hbL
        refine hK.out _ _ (hHeld.trans (hbL.mono hHeld.size)) (fun hHeld => ?_)
        clear hK K
        try simp only [Act.put, List.setIfInBounds_toArray, List.set_cons_zero, List.set_cons_succ]
        refine wpAnyH_take (i := 6) (oi := { dst := some 19, op := Go.Op.build 31 #[(0, Go.Operand.tmp 15), (1, Go.Operand.tmp 18)], type := 31, pos := "l07_ivf.go:132", after := #[{ on := 2, ground := Go.Ground.data }, { on := 5, ground := Go.Ground.data }], guard := none }) (v := ?vr6_7) rfl (by kernel_rfl) (by kernel_rfl) (by kernel_rfl) (fun _ _ _ h => h) (Or.inl ⟨by rfl, ?hr6_7⟩) hHeld ?rr6_7
        case hr6_7 =>
          intro wS hSw
          (try dsimp only at hSw)
          go_simp
          try with_reducible rfl
        case rr6_7 =>
        simp only [Act.put, List.setIfInBounds_toArray, List.set_cons_zero, List.set_cons_succ]
        refine wpAnyH_ready (rs := [7]) (by kernel_rfl) (by simp) ?_
        refine AllReadyH.cons (o := { dst := some 5, op := Go.Op.alloc 31, type := 0, pos := "l07_ivf.go:132", after := #[], guard := none }) rfl (fun K hK => ?_) AllReadyH.nil
        have hbX : Below wL.heap.size wL (wL.alloc (.cells #[.slice none 0 0, .slice none 0 0] 31)) := (Below.refl _ _).alloc (Nat.le_refl _) _
        have bX : Box 0 #[.slice none 0 0, .slice none 0 0] 31 (wL.alloc (.cells #[.slice none 0 0, .slice none 0 0] 31)) wL.heap.size := newBox (Nat.zero_le _)
        replace hoC := own_below hoC hbX
        replace hoL := own_below hoL hbX
        go_simp
        have sX : (wL.alloc (.cells #[.slice none 0 0, .slice none 0 0] 31)).heap.size = wL.heap.size + 1 := by simp
        generalize wL.alloc (.cells #[.slice none 0 0, .slice none 0 0] 31) = wX at *
        refine hK.out _ _ (hHeld.trans (hbX.mono hHeld.size)) (fun hHeld => ?_)
        clear hK K
        try simp only [Act.put, List.setIfInBounds_toArray, List.set_cons_zero, List.set_cons_succ]
        refine wpAnyH_ready (rs := [8]) (by kernel_rfl) (by simp) ?_
        refine AllReadyH.cons (o := { dst := none, op := Go.Op.store 31 (Go.Operand.tmp 5) (Go.Operand.tmp 19), type := 0, pos := "l07_ivf.go:132", after := #[{ on := 7, ground := Go.Ground.data }, { on := 6, ground := Go.Ground.data }, { on := 0, ground := Go.Ground.phase }, { on := 1, ground := Go.Ground.phase }, { on := 2, ground := Go.Ground.phase }, { on := 3, ground := Go.Ground.phase }, { on := 4, ground := Go.Ground.phase }, { on := 5, ground := Go.Ground.phase }, { on := 6, ground := Go.Ground.phase }, { on := 7, ground := Go.Ground.phase }], guard := none }) rfl (fun K hK => ?_) AllReadyH.nil
        have y0 := bX.at 0 _ rfl
        have y1 := bX.at 1 _ rfl
        have f0 := bX.soft 0
        have f1 := bX.soft 1
        have lX := bX.lt
        have gX : w1.heap.size ≤ wD.heap.size := hD0
        go_simp
        refine hK.out _ _ ((hHeld.setCell (by simp; omega) _).setCell (by simp; omega) _) (fun hHeld => ?_)
        clear hK K
        try simp only [Act.put, List.setIfInBounds_toArray, List.set_cons_zero, List.set_cons_succ]
        refine wpAnyH_done (by kernel_rfl) ?_ _
        refine NoPanic.normal ?_
        refine ⟨rfl, _, _, _, rfl, (bX.set 0 _).set 1 _, own_kept hoC fun c hc => ?_, own_kept hoL fun c hc => ?_, ⟨⟨by omega, by omega, by omega⟩, by omega, by omega, by omega⟩, hHeld⟩
        · have e := Option.some.inj hc
          dsimp only at e
          rw [heap_setCell_other _ _ _ _ (by dsimp only; omega), heap_setCell_other _ _ _ _ (by dsimp only; omega)]
        · have e := Option.some.inj hc
          dsimp only at e
          rw [heap_setCell_other _ _ _ _ (by dsimp only; omega), heap_setCell_other _ _ _ _ (by dsimp only; omega)]
      case or7_6 =>
        have hbX : Below wC.heap.size wC (wC.alloc (.cells #[.slice none 0 0, .slice none 0 0] 31)) := (Below.refl _ _).alloc (Nat.le_refl _) _
        have bX : Box 0 #[.slice none 0 0, .slice none 0 0] 31 (wC.alloc (.cells #[.slice none 0 0, .slice none 0 0] 31)) wC.heap.size := newBox (Nat.zero_le _)
        replace hoC := own_below hoC hbX
        go_simp
        have sX : (wC.alloc (.cells #[.slice none 0 0, .slice none 0 0] 31)).heap.size = wC.heap.size + 1 := by simp
        generalize wC.alloc (.cells #[.slice none 0 0, .slice none 0 0] 31) = wX at *
        refine hK.out _ _ (hHeld.trans (hbX.mono hHeld.size)) (fun hHeld => ?_)
        clear hK K
        try simp only [Act.put, List.setIfInBounds_toArray, List.set_cons_zero, List.set_cons_succ]
        refine wpAnyH_ready (rs := [5]) (by kernel_rfl) (by simp) ?_
        refine AllReadyH.cons (o := { dst := some 18, op := Go.Op.makeSlice 29 (Go.Operand.tmp 17) (Go.Operand.tmp 17), type := 29, pos := "l07_ivf.go:132", after := #[{ on := 4, ground := Go.Ground.data }, { on := 4, ground := Go.Ground.data }], guard := none }) rfl (fun K hK => ?_) AllReadyH.nil
        refine step_make_full _ rfl _ _ 29 rfl _ 147 iL _ 1 Try.underlying29 hiL hzL0 hzL1 _ _ _ _ cs.length rfl rfl rfl rfl (by rw [hzL2]; omega) (by unfold maxLen; omega) (Nat.le_refl _) ?_
        rintro wL hoL hgL
        rw [made_nil] at hoL
        have hbL : Below wX.heap.size wX wL := (Below.refl _ _).grown hgL (Nat.le_refl _) (by simp)
        have lL : wX.heap.size < wL.heap.size := (hoL.lt _ rfl).2
        have sL := hbL.size
        replace hoC := own_below hoC hbL
        replace bX := bX.keep hbL
        rw [sX] at hoL
        refine hK.out _ _ (hHeld.trans (hbL.mono hHeld.size)) (fun hHeld => ?_)
        clear hK K
        try simp only [Act.put, List.setIfInBounds_toArray, List.set_cons_zero, List.set_cons_succ]
        refine wpAnyH_take (i := 6) (oi := { dst := some 19, op := Go.Op.build 31 #[(0, Go.Operand.tmp 15), (1, Go.Operand.tmp 18)], type := 31, pos := "l07_ivf.go:132", after := #[{ on := 2, ground := Go.Ground.data }, { on := 5, ground := Go.Ground.data }], guard := none }) (v := ?vr6_8) rfl (by kernel_rfl) (by kernel_rfl) (by kernel_rfl) (fun _ _ _ h => h) (Or.inl ⟨by rfl, ?hr6_8⟩) hHeld ?rr6_8
        case hr6_8 =>
          intro wS hSw
          (try dsimp only at hSw)
          go_simp
          try with_reducible rfl
        case rr6_8 =>
        simp only [Act.put, List.setIfInBounds_toArray, List.set_cons_zero, List.set_cons_succ]
        refine wpAnyH_ready (rs := [8]) (by kernel_rfl) (by simp) ?_
        refine AllReadyH.cons (o := { dst := none, op := Go.Op.store 31 (Go.Operand.tmp 5) (Go.Operand.tmp 19), type := 0, pos := "l07_ivf.go:132", after := #[{ on := 7, ground := Go.Ground.data }, { on := 6, ground := Go.Ground.data }, { on := 0, ground := Go.Ground.phase }, { on := 1, ground := Go.Ground.phase }, { on := 2, ground := Go.Ground.phase }, { on := 3, ground := Go.Ground.phase }, { on := 4, ground := Go.Ground.phase }, { on := 5, ground := Go.Ground.phase }, { on := 6, ground := Go.Ground.phase }, { on := 7, ground := Go.Ground.phase }], guard := none }) rfl (fun K hK => ?_) AllReadyH.nil
        have y0 := bX.at 0 _ rfl
        have y1 := bX.at 1 _ rfl
        have f0 := bX.soft 0
        have f1 := bX.soft 1
        have lX := bX.lt
        have gX : w1.heap.size ≤ wD.heap.size := hD0
        go_simp
        refine hK.out _ _ ((hHeld.setCell (by simp; omega) _).setCell (by simp; omega) _) (fun hHeld => ?_)
        clear hK K
        try simp only [Act.put, List.setIfInBounds_toArray, List.set_cons_zero, List.set_cons_succ]
        refine wpAnyH_done (by kernel_rfl) ?_ _
        refine NoPanic.normal ?_
        refine ⟨rfl, _, _, _, rfl, (bX.set 0 _).set 1 _, own_kept hoC fun c hc => ?_, own_kept hoL fun c hc => ?_, ⟨⟨by omega, by omega, by omega⟩, by omega, by omega, by omega⟩, hHeld⟩
        · have e := Option.some.inj hc
          dsimp only at e
          rw [heap_setCell_other _ _ _ _ (by dsimp only; omega), heap_setCell_other _ _ _ _ (by dsimp only; omega)]
        · have e := Option.some.inj hc
          dsimp only at e
          rw [heap_setCell_other _ _ _ _ (by dsimp only; omega), heap_setCell_other _ _ _ _ (by dsimp only; omega)]
    case or5_5 =>
      refine step_make_full _ rfl _ _ 29 rfl _ 147 iL _ 1 Try.underlying29 hiL hzL0 hzL1 _ _ _ _ cs.length rfl rfl rfl rfl (by rw [hzL2]; omega) (by unfold maxLen; omega) (Nat.le_refl _) ?_
      rintro wL hoL hgL
      rw [made_nil] at hoL
      have hbL : Below wD.heap.size wD wL := (Below.refl _ _).grown hgL (Nat.le_refl _) (by simp)
      have lL : wD.heap.size < wL.heap.size := (hoL.lt _ rfl).2
      have sL := hbL.size
      refine hK.out _ _ (hHeld.trans (hbL.mono hHeld.size)) (fun hHeld => ?_)
      clear hK K
      try simp only [Act.put, List.setIfInBounds_toArray, List.set_cons_zero, List.set_cons_succ]
      refine wpAnyH_ready (rs := [2, 7]) (by kernel_rfl) (by simp) ?_
      refine AllReadyH.cons (o := { dst := some 15, op := Go.Op.makeSlice 28 (Go.Operand.tmp 14) (Go.Operand.tmp 14), type := 28, pos := "l07_ivf.go:132", after := #[{ on := 1, ground := Go.Ground.data }, { on := 1, ground := Go.Ground.data }], guard := none }) rfl (fun K hK => ?or2_9) (AllReadyH.cons (o := { dst := some 5, op := Go.Op.alloc 31, type := 0, pos := "l07_ivf.go:132", after := #[], guard := none }) rfl (fun K hK => ?or7_9) (AllReadyH.nil))
      case or2_9 =>
        refine step_make_full _ rfl _ _ 28 rfl _ 104 iC _ 1 Try.underlying28 hiC hzC0 hzC1 _ _ _ _ cs.length rfl rfl rfl rfl (by rw [hzC2]; omega) (by unfold maxLen; omega) (Nat.le_refl _) ?_
        rintro wC hoC hgC
        rw [made_nil] at hoC
        have hbC : Below wL.heap.size wL wC := (Below.refl _ _).grown hgC (Nat.le_refl _) (by simp)
        have lC : wL.heap.size < wC.heap.size := (hoC.lt _ rfl).2
        have sC := hbC.size
        replace hoL := own_below hoL hbC
        refine hK.out _ _ (hHeld.trans (hbC.mono hHeld.size)) (fun hHeld => ?_)
        clear hK K
        try simp only [Act.put, List.setIfInBounds_toArray, List.set_cons_zero, List.set_cons_succ]
        refine wpAnyH_take (i := 6) (oi := { dst := some 19, op := Go.Op.build 31 #[(0, Go.Operand.tmp 15), (1, Go.Operand.tmp 18)], type := 31, pos := "l07_ivf.go:132", after := #[{ on := 2, ground := Go.Ground.data }, { on := 5, ground := Go.Ground.data }], guard := none }) (v := ?vr6_10) rfl (by kernel_rfl) (by kernel_rfl) (by kernel_rfl) (fun _ _ _ h => h) (Or.inl ⟨by rfl, ?hr6_10⟩) hHeld ?rr6_10
        case hr6_10 =>
          intro wS hSw
          (try dsimp only at hSw)
          go_simp
          try with_reducible rfl
        case rr6_10 =>
        simp only [Act.put, List.setIfInBounds_toArray, List.set_cons_zero, List.set_cons_succ]
        refine wpAnyH_ready (rs := [7]) (by kernel_rfl) (by simp) ?_
        refine AllReadyH.cons (o := { dst := some 5, op := Go.Op.alloc 31, type := 0, pos := "l07_ivf.go:132", after := #[], guard := none }) rfl (fun K hK => ?_) AllReadyH.nil
        have hbX : Below wC.heap.size wC (wC.alloc (.cells #[.slice none 0 0, .slice none 0 0] 31)) := (Below.refl _ _).alloc (Nat.le_refl _) _
        have bX : Box 0 #[.slice none 0 0, .slice none 0 0] 31 (wC.alloc (.cells #[.slice none 0 0, .slice none 0 0] 31)) wC.heap.size := newBox (Nat.zero_le _)
        replace hoC := own_below hoC hbX
        replace hoL := own_below hoL hbX
        go_simp
        have sX : (wC.alloc (.cells #[.slice none 0 0, .slice none 0 0] 31)).heap.size = wC.heap.size + 1 := by simp
        generalize wC.alloc (.cells #[.slice none 0 0, .slice none 0 0] 31) = wX at *
        refine hK.out _ _ (hHeld.trans (hbX.mono hHeld.size)) (fun hHeld => ?_)
        clear hK K
        try simp only [Act.put, List.setIfInBounds_toArray, List.set_cons_zero, List.set_cons_succ]
        refine wpAnyH_ready (rs := [8]) (by kernel_rfl) (by simp) ?_
        refine AllReadyH.cons (o := { dst := none, op := Go.Op.store 31 (Go.Operand.tmp 5) (Go.Operand.tmp 19), type := 0, pos := "l07_ivf.go:132", after := #[{ on := 7, ground := Go.Ground.data }, { on := 6, ground := Go.Ground.data }, { on := 0, ground := Go.Ground.phase }, { on := 1, ground := Go.Ground.phase }, { on := 2, ground := Go.Ground.phase }, { on := 3, ground := Go.Ground.phase }, { on := 4, ground := Go.Ground.phase }, { on := 5, ground := Go.Ground.phase }, { on := 6, ground := Go.Ground.phase }, { on := 7, ground := Go.Ground.phase }], guard := none }) rfl (fun K hK => ?_) AllReadyH.nil
        have y0 := bX.at 0 _ rfl
        have y1 := bX.at 1 _ rfl
        have f0 := bX.soft 0
        have f1 := bX.soft 1
        have lX := bX.lt
        have gX : w1.heap.size ≤ wD.heap.size := hD0
        go_simp
        refine hK.out _ _ ((hHeld.setCell (by simp; omega) _).setCell (by simp; omega) _) (fun hHeld => ?_)
        clear hK K
        try simp only [Act.put, List.setIfInBounds_toArray, List.set_cons_zero, List.set_cons_succ]
        refine wpAnyH_done (by kernel_rfl) ?_ _
        refine NoPanic.normal ?_
        refine ⟨rfl, _, _, _, rfl, (bX.set 0 _).set 1 _, own_kept hoC fun c hc => ?_, own_kept hoL fun c hc => ?_, ⟨⟨by omega, by omega, by omega⟩, by omega, by omega, by omega⟩, hHeld⟩
        · have e := Option.some.inj hc
          dsimp only at e
          rw [heap_setCell_other _ _ _ _ (by dsimp only; omega), heap_setCell_other _ _ _ _ (by dsimp only; omega)]
        · have e := Option.some.inj hc
          dsimp only at e
          rw [heap_setCell_other _ _ _ _ (by dsimp only; omega), heap_setCell_other _ _ _ _ (by dsimp only; omega)]
      case or7_9 =>
        have hbX : Below wL.heap.size wL (wL.alloc (.cells #[.slice none 0 0, .slice none 0 0] 31)) := (Below.refl _ _).alloc (Nat.le_refl _) _
        have bX : Box 0 #[.slice none 0 0, .slice none 0 0] 31 (wL.alloc (.cells #[.slice none 0 0, .slice none 0 0] 31)) wL.heap.size := newBox (Nat.zero_le _)
        replace hoL := own_below hoL hbX
        go_simp
        have sX : (wL.alloc (.cells #[.slice none 0 0, .slice none 0 0] 31)).heap.size = wL.heap.size + 1 := by simp
        generalize wL.alloc (.cells #[.slice none 0 0, .slice none 0 0] 31) = wX at *
        refine hK.out _ _ (hHeld.trans (hbX.mono hHeld.size)) (fun hHeld => ?_)
        clear hK K
        try simp only [Act.put, List.setIfInBounds_toArray, List.set_cons_zero, List.set_cons_succ]
        refine wpAnyH_ready (rs := [2]) (by kernel_rfl) (by simp) ?_
        refine AllReadyH.cons (o := { dst := some 15, op := Go.Op.makeSlice 28 (Go.Operand.tmp 14) (Go.Operand.tmp 14), type := 28, pos := "l07_ivf.go:132", after := #[{ on := 1, ground := Go.Ground.data }, { on := 1, ground := Go.Ground.data }], guard := none }) rfl (fun K hK => ?_) AllReadyH.nil
        refine step_make_full _ rfl _ _ 28 rfl _ 104 iC _ 1 Try.underlying28 hiC hzC0 hzC1 _ _ _ _ cs.length rfl rfl rfl rfl (by rw [hzC2]; omega) (by unfold maxLen; omega) (Nat.le_refl _) ?_
        rintro wC hoC hgC
        rw [made_nil] at hoC
        have hbC : Below wX.heap.size wX wC := (Below.refl _ _).grown hgC (Nat.le_refl _) (by simp)
        have lC : wX.heap.size < wC.heap.size := (hoC.lt _ rfl).2
        have sC := hbC.size
        replace hoL := own_below hoL hbC
        replace bX := bX.keep hbC
        rw [sX] at hoC
        refine hK.out _ _ (hHeld.trans (hbC.mono hHeld.size)) (fun hHeld => ?_)
        clear hK K
        try simp only [Act.put, List.setIfInBounds_toArray, List.set_cons_zero, List.set_cons_succ]
        refine wpAnyH_take (i := 6) (oi := { dst := some 19, op := Go.Op.build 31 #[(0, Go.Operand.tmp 15), (1, Go.Operand.tmp 18)], type := 31, pos := "l07_ivf.go:132", after := #[{ on := 2, ground := Go.Ground.data }, { on := 5, ground := Go.Ground.data }], guard := none }) (v := ?vr6_11) rfl (by kernel_rfl) (by kernel_rfl) (by kernel_rfl) (fun _ _ _ h => h) (Or.inl ⟨by rfl, ?hr6_11⟩) hHeld ?rr6_11
        case hr6_11 =>
          intro wS hSw
          (try dsimp only at hSw)
          go_simp
          try with_reducible rfl
        case rr6_11 =>
        simp only [Act.put, List.setIfInBounds_toArray, List.set_cons_zero, List.set_cons_succ]
        refine wpAnyH_ready (rs := [8]) (by kernel_rfl) (by simp) ?_
        refine AllReadyH.cons (o := { dst := none, op := Go.Op.store 31 (Go.Operand.tmp 5) (Go.Operand.tmp 19), type := 0, pos := "l07_ivf.go:132", after := #[{ on := 7, ground := Go.Ground.data }, { on := 6, ground := Go.Ground.data }, { on := 0, ground := Go.Ground.phase }, { on := 1, ground := Go.Ground.phase }, { on := 2, ground := Go.Ground.phase }, { on := 3, ground := Go.Ground.phase }, { on := 4, ground := Go.Ground.phase }, { on := 5, ground := Go.Ground.phase }, { on := 6, ground := Go.Ground.phase }, { on := 7, ground := Go.Ground.phase }], guard := none }) rfl (fun K hK => ?_) AllReadyH.nil
        have y0 := bX.at 0 _ rfl
        have y1 := bX.at 1 _ rfl
        have f0 := bX.soft 0
        have f1 := bX.soft 1
        have lX := bX.lt
        have gX : w1.heap.size ≤ wD.heap.size := hD0
        go_simp
        refine hK.out _ _ ((hHeld.setCell (by simp; omega) _).setCell (by simp; omega) _) (fun hHeld => ?_)
        clear hK K
        try simp only [Act.put, List.setIfInBounds_toArray, List.set_cons_zero, List.set_cons_succ]
        refine wpAnyH_done (by kernel_rfl) ?_ _
        refine NoPanic.normal ?_
        refine ⟨rfl, _, _, _, rfl, (bX.set 0 _).set 1 _, own_kept hoC fun c hc => ?_, own_kept hoL fun c hc => ?_, ⟨⟨by omega, by omega, by omega⟩, by omega, by omega, by omega⟩, hHeld⟩
        · have e := Option.some.inj hc
          dsimp only at e
          rw [heap_setCell_other _ _ _ _ (by dsimp only; omega), heap_setCell_other _ _ _ _ (by dsimp only; omega)]
        · have e := Option.some.inj hc
          dsimp only at e
          rw [heap_setCell_other _ _ _ _ (by dsimp only; omega), heap_setCell_other _ _ _ _ (by dsimp only; omega)]
    case or7_5 =>
      have hbX : Below wD.heap.size wD (wD.alloc (.cells #[.slice none 0 0, .slice none 0 0] 31)) := (Below.refl _ _).alloc (Nat.le_refl _) _
      have bX : Box 0 #[.slice none 0 0, .slice none 0 0] 31 (wD.alloc (.cells #[.slice none 0 0, .slice none 0 0] 31)) wD.heap.size := newBox (Nat.zero_le _)
      go_simp
      have sX : (wD.alloc (.cells #[.slice none 0 0, .slice none 0 0] 31)).heap.size = wD.heap.size + 1 := by simp
      generalize wD.alloc (.cells #[.slice none 0 0, .slice none 0 0] 31) = wX at *
      refine hK.out _ _ (hHeld.trans (hbX.mono hHeld.size)) (fun hHeld => ?_)
      clear hK K
      try simp only [Act.put, List.setIfInBounds_toArray, List.set_cons_zero, List.set_cons_succ]
      refine wpAnyH_ready (rs := [2, 5]) (by kernel_rfl) (by simp) ?_
      refine AllReadyH.cons (o := { dst := some 15, op := Go.Op.makeSlice 28 (Go.Operand.tmp 14) (Go.Operand.tmp 14), type := 28, pos := "l07_ivf.go:132", after := #[{ on := 1, ground := Go.Ground.data }, { on := 1, ground := Go.Ground.data }], guard := none }) rfl (fun K hK => ?or2_12) (AllReadyH.cons (o := { dst := some 18, op := Go.Op.makeSlice 29 (Go.Operand.tmp 17) (Go.Operand.tmp 17), type := 29, pos := "l07_ivf.go:132", after := #[{ on := 4, ground := Go.Ground.data }, { on := 4, ground := Go.Ground.data }], guard := none }) rfl (fun K hK => ?or5_12) (AllReadyH.nil))
      case or2_12 =>
        refine step_make_full _ rfl _ _ 28 rfl _ 104 iC _ 1 Try.underlying28 hiC hzC0 hzC1 _ _ _ _ cs.length rfl rfl rfl rfl (by rw [hzC2]; omega) (by unfold maxLen; omega) (Nat.le_refl _) ?_
        rintro wC hoC hgC
        rw [made_nil] at hoC
        have hbC : Below wX.heap.size wX wC := (Below.refl _ _).grown hgC (Nat.le_refl _) (by simp)
        have lC : wX.heap.size < wC.heap.size := (hoC.lt _ rfl).2
        have sC := hbC.size
        replace bX := bX.keep hbC
        rw [sX] at hoC
        refine hK.out _ _ (hHeld.trans (hbC.mono hHeld.size)) (fun hHeld => ?_)
        clear hK K
        try simp only [Act.put, List.setIfInBounds_toArray, List.set_cons_zero, List.set_cons_succ]
        refine wpAnyH_ready (rs := [5]) (by kernel_rfl) (by simp) ?_
        refine AllReadyH.cons (o := { dst := some 18, op := Go.Op.makeSlice 29 (Go.Operand.tmp 17) (Go.Operand.tmp 17), type := 29, pos := "l07_ivf.go:132", after := #[{ on := 4, ground := Go.Ground.data }, { on := 4, ground := Go.Ground.data }], guard := none }) rfl (fun K hK => ?_) AllReadyH.nil
        refine step_make_full _ rfl _ _ 29 rfl _ 147 iL _ 1 Try.underlying29 hiL hzL0 hzL1 _ _ _ _ cs.length rfl rfl rfl rfl (by rw [hzL2]; omega) (by unfold maxLen; omega) (Nat.le_refl _) ?_
        rintro wL hoL hgL
        rw [made_nil] at hoL
        have hbL : Below wC.heap.size wC wL := (Below.refl _ _).grown hgL (Nat.le_refl _) (by simp)
        have lL : wC.heap.size < wL.heap.size := (hoL.lt _ rfl).2
        have sL := hbL.size
        replace hoC := own_below hoC hbL
        replace bX := bX.keep hbL
        refine hK.out _ _ (hHeld.trans (hbL.mono hHeld.size)) (fun hHeld => ?_)
        clear hK K
        try simp only [Act.put, List.setIfInBounds_toArray, List.set_cons_zero, List.set_cons_succ]
        refine wpAnyH_take (i := 6) (oi := { dst := some 19, op := Go.Op.build 31 #[(0, Go.Operand.tmp 15), (1, Go.Operand.tmp 18)], type := 31, pos := "l07_ivf.go:132", after := #[{ on := 2, ground := Go.Ground.data }, { on := 5, ground := Go.Ground.data }], guard := none }) (v := ?vr6_13) rfl (by kernel_rfl) (by kernel_rfl) (by kernel_rfl) (fun _ _ _ h => h) (Or.inl ⟨by rfl, ?hr6_13⟩) hHeld ?rr6_13
        case hr6_13 =>
          intro wS hSw
          (try dsimp only at hSw)
          go_simp
          try with_reducible rfl
        case rr6_13 =>
        simp only [Act.put, List.setIfInBounds_toArray, List.set_cons_zero, List.set_cons_succ]
        refine wpAnyH_ready (rs := [8]) (by kernel_rfl) (by simp) ?_
        refine AllReadyH.cons (o := { dst := none, op := Go.Op.store 31 (Go.Operand.tmp 5) (Go.Operand.tmp 19), type := 0, pos := "l07_ivf.go:132", after := #[{ on := 7, ground := Go.Ground.data }, { on := 6, ground := Go.Ground.data }, { on := 0, ground := Go.Ground.phase }, { on := 1, ground := Go.Ground.phase }, { on := 2, ground := Go.Ground.phase }, { on := 3, ground := Go.Ground.phase }, { on := 4, ground := Go.Ground.phase }, { on := 5, ground := Go.Ground.phase }, { on := 6, ground := Go.Ground.phase }, { on := 7, ground := Go.Ground.phase }], guard := none }) rfl (fun K hK => ?_) AllReadyH.nil
        have y0 := bX.at 0 _ rfl
        have y1 := bX.at 1 _ rfl
        have f0 := bX.soft 0
        have f1 := bX.soft 1
        have lX := bX.lt
        have gX : w1.heap.size ≤ wD.heap.size := hD0
        go_simp
        refine hK.out _ _ ((hHeld.setCell (by simp; omega) _).setCell (by simp; omega) _) (fun hHeld => ?_)
        clear hK K
        try simp only [Act.put, List.setIfInBounds_toArray, List.set_cons_zero, List.set_cons_succ]
        refine wpAnyH_done (by kernel_rfl) ?_ _
        refine NoPanic.normal ?_
        refine ⟨rfl, _, _, _, rfl, (bX.set 0 _).set 1 _, own_kept hoC fun c hc => ?_, own_kept hoL fun c hc => ?_, ⟨⟨by omega, by omega, by omega⟩, by omega, by omega, by omega⟩, hHeld⟩
        · have e := Option.some.inj hc
          dsimp only at e
          rw [heap_setCell_other _ _ _ _ (by dsimp only; omega), heap_setCell_other _ _ _ _ (by dsimp only; omega)]
        · have e := Option.some.inj hc
          dsimp only at e
          rw [heap_setCell_other _ _ _ _ (by dsimp only; omega), heap_setCell_other _ _ _ _ (by dsimp only; omega)]
      case or5_12 =>
        refine step_make_full _ rfl _ _ 29 rfl _ 147 iL _ 1 Try.underlying29 hiL hzL0 hzL1 _ _ _ _ cs.length rfl rfl rfl rfl (by rw [hzL2]; omega) (by unfold maxLen; omega) (Nat.le_refl _) ?_
        rintro wL hoL hgL
        rw [made_nil] at hoL
        have hbL : Below wX.heap.size wX wL := (Below.refl _ _).grown hgL (Nat.le_refl _) (by simp)
        have lL : wX.heap.size < wL.heap.size := (hoL.lt _ rfl).2
        have sL := hbL.size
        replace bX := bX.keep hbL
        rw [sX] at hoL
        refine hK.out _ _ (hHeld.trans (hbL.mono hHeld.size)) (fun hHeld => ?_)
        clear hK K
        try simp only [Act.put, List.setIfInBounds_toArray, List.set_cons_zero, List.set_cons_succ]
        refine wpAnyH_ready (rs := [2]) (by kernel_rfl) (by simp) ?_
        refine AllReadyH.cons (o := { dst := some 15, op := Go.Op.makeSlice 28 (Go.Operand.tmp 14) (Go.Operand.tmp 14), type := 28, pos := "l07_ivf.go:132", after := #[{ on := 1, ground := Go.Ground.data }, { on := 1, ground := Go.Ground.data }], guard := none }) rfl (fun K hK => ?_) AllReadyH.nil
        refine step_make_full _ rfl _ _ 28 rfl _ 104 iC _ 1 Try.underlying28 hiC hzC0 hzC1 _ _ _ _ cs.length rfl rfl rfl rfl (by rw [hzC2]; omega) (by unfold maxLen; omega) (Nat.le_refl _) ?_
        rintro wC hoC hgC
        rw [made_nil] at hoC
        have hbC : Below wL.heap.size wL wC := (Below.refl _ _).grown hgC (Nat.le_refl _) (by simp)
        have lC : wL.heap.size < wC.heap.size := (hoC.lt _ rfl).2
        have sC := hbC.size
        replace hoL := own_below hoL hbC
        replace bX := bX.keep hbC
        refine hK.out _ _ (hHeld.trans (hbC.mono hHeld.size)) (fun hHeld => ?_)
        clear hK K
        try simp only [Act.put, List.setIfInBounds_toArray, List.set_cons_zero, List.set_cons_succ]
        refine wpAnyH_take (i := 6) (oi := { dst := some 19, op := Go.Op.build 31 #[(0, Go.Operand.tmp 15), (1, Go.Operand.tmp 18)], type := 31, pos := "l07_ivf.go:132", after := #[{ on := 2, ground := Go.Ground.data }, { on := 5, ground := Go.Ground.data }], guard := none }) (v := ?vr6_14) rfl (by kernel_rfl) (by kernel_rfl) (by kernel_rfl) (fun _ _ _ h => h) (Or.inl ⟨by rfl, ?hr6_14⟩) hHeld ?rr6_14
        case hr6_14 =>
          intro wS hSw
          (try dsimp only at hSw)
          go_simp
          try with_reducible rfl
        case rr6_14 =>
        simp only [Act.put, List.setIfInBounds_toArray, List.set_cons_zero, List.set_cons_succ]
        refine wpAnyH_ready (rs := [8]) (by kernel_rfl) (by simp) ?_
        refine AllReadyH.cons (o := { dst := none, op := Go.Op.store 31 (Go.Operand.tmp 5) (Go.Operand.tmp 19), type := 0, pos := "l07_ivf.go:132", after := #[{ on := 7, ground := Go.Ground.data }, { on := 6, ground := Go.Ground.data }, { on := 0, ground := Go.Ground.phase }, { on := 1, ground := Go.Ground.phase }, { on := 2, ground := Go.Ground.phase }, { on := 3, ground := Go.Ground.phase }, { on := 4, ground := Go.Ground.phase }, { on := 5, ground := Go.Ground.phase }, { on := 6, ground := Go.Ground.phase }, { on := 7, ground := Go.Ground.phase }], guard := none }) rfl (fun K hK => ?_) AllReadyH.nil
        have y0 := bX.at 0 _ rfl
        have y1 := bX.at 1 _ rfl
        have f0 := bX.soft 0
        have f1 := bX.soft 1
        have lX := bX.lt
        have gX : w1.heap.size ≤ wD.heap.size := hD0
        go_simp
        refine hK.out _ _ ((hHeld.setCell (by simp; omega) _).setCell (by simp; omega) _) (fun hHeld => ?_)
        clear hK K
        try simp only [Act.put, List.setIfInBounds_toArray, List.set_cons_zero, List.set_cons_succ]
        refine wpAnyH_done (by kernel_rfl) ?_ _
        refine NoPanic.normal ?_
        refine ⟨rfl, _, _, _, rfl, (bX.set 0 _).set 1 _, own_kept hoC fun c hc => ?_, own_kept hoL fun c hc => ?_, ⟨⟨by omega, by omega, by omega⟩, by omega, by omega, by omega⟩, hHeld⟩
        · have e := Option.some.inj hc
          dsimp only at e
          rw [heap_setCell_other _ _ _ _ (by dsimp only; omega), heap_setCell_other _ _ _ _ (by dsimp only; omega)]
        · have e := Option.some.inj hc
          dsimp only at e
          rw [heap_setCell_other _ _ _ _ (by dsimp only; omega), heap_setCell_other _ _ _ _ (by dsimp only; omega)]
  case after =>
    rintro e a' w2 ⟨rfl, GC, GL, BX, rfl, bX, hoC, hoL, ⟨⟨g1, g2, g3⟩, n1, n2, n3⟩, hb2⟩
    have lC : GC < w2.heap.size := (hoC.lt _ rfl).2
    have lL : GL < w2.heap.size := (hoL.lt _ rfl).2
    have lX := bX.lt
    have hR1 := (unhide HR).lt
    have HB2 := hide hb2
    have HBX := hide bX
    have HOL := hide hoL
    have HF0 := hide (FillL.start (lo := w2.heap.size) cs ⟨lC, Nat.le_refl _⟩ hoC)
    clear hb2 bX hoL hoC hD0 hiC hzC0 hzC1 hzC2 hiL hzL0 hzL1 hzL2
    go_wp2_with fail
    go_loopw [22] (fun i wr => ∃ k : Nat, k ≤ cs.length ∧ i = .int .i64 k ∧ FillL wr GC w2.heap.size cs.length k cs ∧ Ext (fun q => q = GC) w2 wr) (fun i _ => cs.length - (intOf i).toNat)
    case atStart => exact ⟨0, Nat.zero_le _, rfl, unhide HF0, Ext.refl _ _⟩
    case round =>
      obtain ⟨k, hk, rfl, hF, hE⟩ := hrel
      clear HF0
      have hzr := hE.size
      have hBr : Below w1.heap.size w1 wr := (unhide HB2).trans (hE.below (unhide HB2).size (fun q hq e => by omega))
      by_cases hlt : k < cs.length
      · obtain ⟨b, off, rfl, hbl⟩ := Lay.sl_addr (unhide H1) (by omega)
        obtain ⟨row, hc, hr⟩ := Lay.row_at (unhide H1) hlt
        replace hr := hr.later hBr
        obtain ⟨a1, d1, rfl, R1⟩ := open_Center hr
        have c1 : wr.cell? ⟨b, off + k, none⟩ = some (.slice a1 (cs[k]).vec.length d1) := (hBr.cell (p := ⟨b, off + k, none⟩) hbl).trans (cen_cell (hc 0 (by decide)))
        have hvf := (centersFault_zero (unhide HCF)).2 cs[k] (List.getElem_mem hlt)
        have HTK : Hid (cs.take (k + 1) = cs.take k ++ [⟨cs[k].vec⟩]) := List.take_succ_eq_append_getElem hlt
        clear hc hr
        generalize hx : cs[k] = c at *
        clear hx
        have hl3 : c.vec.length = 3 := (vecFault_zero hvf).1
        have HWF : Hid (∀ z ∈ c.vec, (Lit.int .i64 z).wf = true) := (Lay.ints_reads R1).wf
        obtain ⟨b1, o1, rfl, hb1⟩ := Lay.sl_addr R1 (by omega)
        have nb : Below wr.heap.size wr (wr.alloc (.cells #[.slice (some ⟨b1, o1, none⟩) c.vec.length d1] 104)) := (Below.refl _ _).alloc (Nat.le_refl _) _
        have bC : Box wr.heap.size #[.slice (some ⟨b1, o1, none⟩) c.vec.length d1] 104 (wr.alloc (.cells #[.slice (some ⟨b1, o1, none⟩) c.vec.length d1] 104)) wr.heap.size := newBox (Nat.le_refl _)
        have HBC4 := hide bC
        have HBX4 := hide (((unhide HBX).ext hE (by omega)).keep nb)
        have HF4 := hide (hF.later nb)
        have HI4 := hide ((Lay.ints_reads R1).later nb)
        have HE4 := hide (hE.trans (ext_of_below nb _))
        have HL3 := hide hl3
        clear R1 hvf nb bC hF hE hBr hl3
        go_wp2_with fail
        clear c1
        generalize wr.alloc (.cells #[.slice (some ⟨b1, o1, none⟩) c.vec.length d1] 104) = W4 at *
        have hW4 : wr.heap.size < W4.heap.size := (unhide HBC4).lt
        have hDF : FillL W4.drew GC w2.heap.size cs.length k cs := unhide HF4
        have hDI : IsInts W4.drew (.slice (some ⟨b1, o1, none⟩) c.vec.length d1) c.vec := unhide HI4
        have hl3 : c.vec.length ≤ 100000000 := by rw [unhide HL3]; omega
        refine wp_region_noPanic ?_
        refine wp_region_held_drew (S := fun w' => Ext (fun q => q = GC) W4 w') (by kernel_rfl) (Ext.refl _ _).drew1 (fun hHeld => ?_)
        generalize W4.drew = wD at hHeld hDF hDI ⊢
        refine wpAnyH_take (i := 0) (oi := { dst := some 27, op := Go.Op.fieldAddr 31 (Go.Operand.tmp 5) 0, type := 0, pos := "l07_ivf.go:134", after := #[], guard := none }) (v := ?vs0) rfl (by kernel_rfl) (by kernel_rfl) (by kernel_rfl) (fun _ _ _ h => h) (Or.inl ⟨by rfl, ?hs0⟩) hHeld ?rs0
        case hs0 =>
          intro wS hSw
          (try dsimp only at hSw)
          go_simp
          try with_reducible rfl
        case rs0 =>
        simp only [Act.put, List.setIfInBounds_toArray, List.set_cons_zero, List.set_cons_succ]
        refine wpAnyH_take (i := 1) (oi := { dst := some 28, op := Go.Op.load 28 (Go.Operand.tmp 27), type := 28, pos := "l07_ivf.go:134", after := #[{ on := 0, ground := Go.Ground.data }], guard := none }) (v := ?vs1) rfl (by kernel_rfl) (by kernel_rfl) (by kernel_rfl) (fun _ _ _ h => h) (Or.inl ⟨by rfl, ?hs1⟩) hHeld ?rs1
        case hs1 =>
          intro wS hSw
          have y0 := ((unhide HBX4).ext hSw (by omega)).at 0 _ rfl
          clear hSw
          (try dsimp only at hSw)
          go_simp
          try with_reducible rfl
        case rs1 =>
        simp only [Act.put, List.setIfInBounds_toArray, List.set_cons_zero, List.set_cons_succ]
        refine wpAnyH_take (i := 2) (oi := { dst := some 29, op := Go.Op.move (Go.Operand.tmp 6), type := 3, pos := "l07_ivf.go:134", after := #[], guard := none }) (v := ?vs2) rfl (by kernel_rfl) (by kernel_rfl) (by kernel_rfl) (fun _ _ _ h => h) (Or.inl ⟨by rfl, ?hs2⟩) hHeld ?rs2
        case hs2 =>
          intro wS hSw
          (try dsimp only at hSw)
          go_simp
          try with_reducible rfl
        case rs2 =>
        simp only [Act.put, List.setIfInBounds_toArray, List.set_cons_zero, List.set_cons_succ]
        refine wpAnyH_take (i := 3) (oi := { dst := some 30, op := Go.Op.fieldAddr 104 (Go.Operand.tmp 7) 0, type := 0, pos := "l07_ivf.go:134", after := #[], guard := none }) (v := ?vs3) rfl (by kernel_rfl) (by kernel_rfl) (by kernel_rfl) (fun _ _ _ h => h) (Or.inl ⟨by rfl, ?hs3⟩) hHeld ?rs3
        case hs3 =>
          intro wS hSw
          (try dsimp only at hSw)
          go_simp
          try with_reducible rfl
        case rs3 =>
        simp only [Act.put, List.setIfInBounds_toArray, List.set_cons_zero, List.set_cons_succ]
        refine wpAnyH_take (i := 4) (oi := { dst := some 31, op := Go.Op.load 51 (Go.Operand.tmp 30), type := 51, pos := "l07_ivf.go:134", after := #[{ on := 3, ground := Go.Ground.data }], guard := none }) (v := ?vs4) rfl (by kernel_rfl) (by kernel_rfl) (by kernel_rfl) (fun _ _ _ h => h) (Or.inl ⟨by rfl, ?hs4⟩) hHeld ?rs4
        case hs4 =>
          intro wS hSw
          have y0 := ((unhide HBC4).ext hSw (by omega)).at 0 _ rfl
          clear hSw
          (try dsimp only at hSw)
          go_simp
          try with_reducible rfl
        case rs4 =>
        simp only [Act.put, List.setIfInBounds_toArray, List.set_cons_zero, List.set_cons_succ]
        refine wpAnyH_ready (rs := [5]) (by kernel_rfl) (by simp) ?_
        refine AllReadyH.cons (o := { dst := some 32, op := Go.Op.call { callee := Go.Callee.value (Go.Operand.func 115), args := #[Go.Operand.tmp 31], argTypes := #[51] }, type := 51, pos := "l07_ivf.go:134", after := #[{ on := 4, ground := Go.Ground.data }], guard := none }) rfl (fun K hK => ?_) AllReadyH.nil
        go_simp
        go_at_call 115
        refine (slClone _ _ c.vec _ hDI (by omega)).mono ?_
        rintro e w3 ⟨v9, rfl, hO9, hb9⟩
        have hI9 := Lay.ownInts (unhide HWF) (by omega) hO9
        obtain ⟨a9, c9, rfl⟩ := open_sl hI9.reads
        have hF3 := hDF.later hb9
        try go_wp2_with fail
        refine hK.out _ _ (hHeld.trans (ext_of_below hb9 _)) (fun hHeld => ?_)
        clear hK K
        try simp only [Act.put, List.setIfInBounds_toArray, List.set_cons_zero, List.set_cons_succ]
        refine wpAnyH_take (i := 6) (oi := { dst := some 33, op := Go.Op.indexAddr 28 (Go.Operand.tmp 28) (Go.Operand.tmp 29), type := 0, pos := "l07_ivf.go:134", after := #[{ on := 1, ground := Go.Ground.data }, { on := 2, ground := Go.Ground.data }, { on := 0, ground := Go.Ground.phase }, { on := 1, ground := Go.Ground.phase }, { on := 2, ground := Go.Ground.phase }, { on := 3, ground := Go.Ground.phase }, { on := 4, ground := Go.Ground.phase }, { on := 5, ground := Go.Ground.phase }], guard := none }) (v := ?vs6) rfl (by kernel_rfl) (by kernel_rfl) (by kernel_rfl) (fun _ _ _ h => h) (Or.inl ⟨by rfl, ?hs6⟩) hHeld ?rs6
        case hs6 =>
          intro wS hSw
          (try dsimp only at hSw)
          go_simp
          try with_reducible rfl
        case rs6 =>
        simp only [Act.put, List.setIfInBounds_toArray, List.set_cons_zero, List.set_cons_succ]
        refine wpAnyH_take (i := 7) (oi := { dst := some 34, op := Go.Op.fieldAddr 104 (Go.Operand.tmp 33) 0, type := 0, pos := "l07_ivf.go:134", after := #[{ on := 6, ground := Go.Ground.data }, { on := 0, ground := Go.Ground.phase }, { on := 1, ground := Go.Ground.phase }, { on := 2, ground := Go.Ground.phase }, { on := 3, ground := Go.Ground.phase }, { on := 4, ground := Go.Ground.phase }, { on := 5, ground := Go.Ground.phase }], guard := none }) (v := ?vs7) rfl (by kernel_rfl) (by kernel_rfl) (by kernel_rfl) (fun _ _ _ h => h) (Or.inl ⟨by rfl, ?hs7⟩) hHeld ?rs7
        case hs7 =>
          intro wS hSw
          (try dsimp only at hSw)
          go_simp
          try with_reducible rfl
        case rs7 =>
        simp only [Act.put, List.setIfInBounds_toArray, List.set_cons_zero, List.set_cons_succ]
        refine wpAnyH_ready (rs := [8]) (by kernel_rfl) (by simp) ?_
        refine AllReadyH.cons (o := { dst := none, op := Go.Op.store 51 (Go.Operand.tmp 34) (Go.Operand.tmp 32), type := 0, pos := "l07_ivf.go:134", after := #[{ on := 7, ground := Go.Ground.data }, { on := 5, ground := Go.Ground.data }, { on := 5, ground := Go.Ground.chain }, { on := 0, ground := Go.Ground.phase }, { on := 1, ground := Go.Ground.phase }, { on := 2, ground := Go.Ground.phase }, { on := 3, ground := Go.Ground.phase }, { on := 4, ground := Go.Ground.phase }, { on := 5, ground := Go.Ground.phase }], guard := none }) rfl (fun K hK => ?_) AllReadyH.nil
        obtain ⟨⟨u9, hu9⟩, hf9, hl9⟩ := hF3.there hlt
        go_simp
        have hF5 := hDF.put hlt hb9 hI9 (unhide HTK)
        refine hK.out _ _ (hHeld.setCell _ _ rfl) (fun hHeld => ?_)
        clear hK K
        try simp only [Act.put, List.setIfInBounds_toArray, List.set_cons_zero, List.set_cons_succ]
        refine wpAnyH_done (by kernel_rfl) ?_ _
        refine NoPanic.normal ?_
        have HF9 := hide hF5
        have HE9 := hide ((unhide HE4).trans hHeld)
        clear hHeld hDF hDI hF5 hI9 hO9 hF3 hu9 hf9 hl9
        go_wp2_with fail
        go_roundw
        case rel => exact ⟨k + 1, by omega, by go_num, unhide HF9, unhide HE9⟩
        case measure => simp [intOf]; omega
      · obtain rfl : k = cs.length := by omega
        obtain ⟨blC, oC, rC⟩ := hF.done rfl (by omega)
        have HBXz := hide ((unhide HBX).ext hE (by omega))
        have hoL5 := own_kept (unhide HOL) (w' := wr) fun q hq => hE.block q (by have := Option.some.inj hq; dsimp only at this; omega) (by have := Option.some.inj hq; dsimp only at this; omega)
        have HL0 := hide (ListsO.start (lo := wr.heap.size) ⟨by omega, Nat.le_refl _⟩ hoL5)
        have HOC := hide oC
        have HRC := hide rC
        have HBz := hide hBr
        have HEz := hide hE
        clear hF hE hBr oC rC hoL5
        go_wp2_with fail
        rename World => wz
        go_loopw [38] (fun i wr => ∃ k : Nat, k ≤ xs.length ∧ i = .int .i64 k ∧ ListsO wr GL wz.heap.size cs.length (fun i => mineI cs (xs.take k) i) ∧ Ext (fun q => q = GL) wz wr) (fun i _ => xs.length - (intOf i).toNat)
        case atStart => exact ⟨0, Nat.zero_le _, rfl, unhide HL0, Ext.refl _ _⟩
        case round =>
          obtain ⟨k, hk, rfl, hL, hE⟩ := hrel
          clear HL0
          have hzr := hE.size
          have hBr : Below w1.heap.size w1 wr := (unhide HBz).trans (hE.below (unhide HBz).size (fun q hq e => by omega))
          by_cases hlt : k < xs.length
          · obtain ⟨b, off, rfl, hbl⟩ := Lay.sl_addr (unhide H2) (by omega)
            obtain ⟨row, hc, hr⟩ := Lay.row_at (unhide H2) hlt
            replace hr := hr.later hBr
            obtain ⟨a1, d1, rfl, R1⟩ := open_Item hr
            have c0 : wr.cell? ⟨b, off + k * 2, none⟩ = some (.int .i64 (xs[k]).id) := (hBr.cell (p := ⟨b, off + k * 2, none⟩) hbl).trans (hc 0 (by decide))
            have c1 : wr.cell? ⟨b, off + k * 2 + 1, none⟩ = some (.slice a1 (xs[k]).vec.length d1) := (hBr.cell (p := ⟨b, off + k * 2 + 1, none⟩) hbl).trans (hc 1 (by decide))
            obtain ⟨hid, hvf⟩ := (tableFault_zero (unhide HXR)).2.1 xs[k] (List.getElem_mem hlt)
            have hx30 : xs.length ≤ 30 := (tableFault_zero (unhide HXR)).1
            have HST : Hid (∀ i, i < cs.length → (if i = near cs xs[k].vec then mineI cs (xs.take k) (near cs xs[k].vec) ++ [⟨xs[k].id, xs[k].vec⟩] else mineI cs (xs.take k) i) = mineI cs (xs.take (k + 1)) i) := fun i _ => mine_put cs xs i k hlt
            clear hc hr
            generalize hx : xs[k] = x at *
            clear hx
            have hl3 : x.vec.length = 3 := (vecFault_zero hvf).1
            have HWF : Hid (∀ z ∈ x.vec, (Lit.int .i64 z).wf = true) := (Lay.ints_reads R1).wf
            have HIW := hide (id_wf hid)
            obtain ⟨b1, o1, rfl, hb1⟩ := Lay.sl_addr R1 (by omega)
            have nb : Below wr.heap.size wr (wr.alloc (.cells #[.int .i64 x.id, .slice (some ⟨b1, o1, none⟩) x.vec.length d1] 106)) := (Below.refl _ _).alloc (Nat.le_refl _) _
            have bI : Box wr.heap.size #[.int .i64 x.id, .slice (some ⟨b1, o1, none⟩) x.vec.length d1] 106 (wr.alloc (.cells #[.int .i64 x.id, .slice (some ⟨b1, o1, none⟩) x.vec.length d1] 106)) wr.heap.size := newBox (Nat.le_refl _)
            have hBn := hBr.trans (nb.mono hBr.size)
            have LN := hide (nearC _ cs _ x.vec _ ((unhide H1).later hBn) ((Lay.ints_reads R1).later nb) (unhide HCF) hvf)
            have hpl := near_lt (unhide HCF) hvf
            have HNB := hide nb
            have HBI := hide bI
            have HI4 := hide ((Lay.ints_reads R1).later nb)
            have HL3 := hide hl3
            have HLr := hide hL
            have HEr := hide hE
            clear R1 hvf nb bI hL hE hBr hl3 hid hBn
            generalize near cs x.vec = p at *
            generalize nearS cs x.vec = ns at *
            go_wp2_with fail
            clear c0 c1
            generalize wr.alloc (.cells #[.int .i64 x.id, .slice (some ⟨b1, o1, none⟩) x.vec.length d1] 106) = W4 at *
            refine (unhide LN).mono ?_
            rintro e W5 ⟨rfl, hb5⟩
            have hW4 : wr.heap.size < W4.heap.size := (unhide HBI).lt
            have hW5 := hb5.size
            have HBI5 := hide ((unhide HBI).keep hb5)
            have HI5 := hide ((unhide HI4).later hb5)
            have HNB5 := hide ((unhide HNB).trans (hb5.mono (unhide HNB).size))
            clear hb5 LN HBI HI4 HNB
            go_wp2_with fail
            have hl3 : x.vec.length ≤ 100000000 := by rw [unhide HL3]; omega
            have hDI : IsInts W5.drew (.slice (some ⟨b1, o1, none⟩) x.vec.length d1) x.vec := unhide HI5
            have hD0 : W5.heap.size ≤ W5.drew.heap.size := Nat.le_refl _
            refine wp_region_noPanic ?_
            refine wp_region_held_drew (S := fun w' => Below W5.heap.size W5 w') (by kernel_rfl) (Below.refl _ _).drew (fun hHeld => ?_)
            generalize W5.drew = wD at hHeld hDI hD0 ⊢
            refine wpAnyH_take (i := 0) (oi := { dst := some 49, op := Go.Op.fieldAddr 106 (Go.Operand.tmp 9) 0, type := 0, pos := "l07_ivf.go:138", after := #[], guard := none }) (v := ?vt0_1) rfl (by kernel_rfl) (by kernel_rfl) (by kernel_rfl) (fun _ _ _ h => h) (Or.inl ⟨by rfl, ?ht0_1⟩) hHeld ?rt0_1
            case ht0_1 =>
              intro wS hSw
              (try dsimp only at hSw)
              go_simp
              try with_reducible rfl
            case rt0_1 =>
            simp only [Act.put, List.setIfInBounds_toArray, List.set_cons_zero, List.set_cons_succ]
            refine wpAnyH_take (i := 1) (oi := { dst := some 50, op := Go.Op.load 2 (Go.Operand.tmp 49), type := 2, pos := "l07_ivf.go:138", after := #[{ on := 0, ground := Go.Ground.data }], guard := none }) (v := ?vt1_2) rfl (by kernel_rfl) (by kernel_rfl) (by kernel_rfl) (fun _ _ _ h => h) (Or.inl ⟨by rfl, ?ht1_2⟩) hHeld ?rt1_2
            case ht1_2 =>
              intro wS hSw
              have y0 := ((unhide HBI5).keep hSw).at 0 _ rfl
              have y1 := ((unhide HBI5).keep hSw).at 1 _ rfl
              clear hSw
              (try dsimp only at hSw)
              go_simp
              try with_reducible rfl
            case rt1_2 =>
            simp only [Act.put, List.setIfInBounds_toArray, List.set_cons_zero, List.set_cons_succ]
            refine wpAnyH_take (i := 2) (oi := { dst := some 51, op := Go.Op.fieldAddr 106 (Go.Operand.tmp 9) 1, type := 0, pos := "l07_ivf.go:138", after := #[], guard := none }) (v := ?vt2_3) rfl (by kernel_rfl) (by kernel_rfl) (by kernel_rfl) (fun _ _ _ h => h) (Or.inl ⟨by rfl, ?ht2_3⟩) hHeld ?rt2_3
            case ht2_3 =>
              intro wS hSw
              (try dsimp only at hSw)
              go_simp
              try with_reducible rfl
            case rt2_3 =>
            simp only [Act.put, List.setIfInBounds_toArray, List.set_cons_zero, List.set_cons_succ]
            refine wpAnyH_take (i := 3) (oi := { dst := some 52, op := Go.Op.load 51 (Go.Operand.tmp 51), type := 51, pos := "l07_ivf.go:138", after := #[{ on := 2, ground := Go.Ground.data }], guard := none }) (v := ?vt3_4) rfl (by kernel_rfl) (by kernel_rfl) (by kernel_rfl) (fun _ _ _ h => h) (Or.inl ⟨by rfl, ?ht3_4⟩) hHeld ?rt3_4
            case ht3_4 =>
              intro wS hSw
              have y0 := ((unhide HBI5).keep hSw).at 0 _ rfl
              have y1 := ((unhide HBI5).keep hSw).at 1 _ rfl
              clear hSw
              (try dsimp only at hSw)
              go_simp
              try with_reducible rfl
            case rt3_4 =>
            simp only [Act.put, List.setIfInBounds_toArray, List.set_cons_zero, List.set_cons_succ]
            refine wpAnyH_ready (rs := [4, 6]) (by kernel_rfl) (by simp) ?_
            refine AllReadyH.cons (o := { dst := some 53, op := Go.Op.call { callee := Go.Callee.value (Go.Operand.func 115), args := #[Go.Operand.tmp 52], argTypes := #[51] }, type := 51, pos := "l07_ivf.go:138", after := #[{ on := 3, ground := Go.Ground.data }], guard := none }) rfl (fun K hK => ?ot4_5) (AllReadyH.cons (o := { dst := some 12, op := Go.Op.alloc 106, type := 0, pos := "l07_ivf.go:138", after := #[], guard := none }) rfl (fun K hK => ?ot6_5) (AllReadyH.nil))
            case ot4_5 =>
              go_simp
              go_at_call 115
              refine (slClone _ _ x.vec _ hDI (by omega)).mono ?_
              rintro e w3 ⟨v9, rfl, hO9, hb9⟩
              have hI9 := Lay.ownInts (unhide HWF) (by omega) hO9
              obtain ⟨a9, c9, rfl⟩ := open_sl hI9.reads
              have sz9 := hb9.size
              try go_wp2_with fail
              refine hK.out _ _ (hHeld.trans (hb9.mono hHeld.size)) (fun hHeld => ?_)
              clear hK K
              try simp only [Act.put, List.setIfInBounds_toArray, List.set_cons_zero, List.set_cons_succ]
              refine wpAnyH_take (i := 5) (oi := { dst := some 54, op := Go.Op.build 106 #[(0, Go.Operand.tmp 50), (1, Go.Operand.tmp 53)], type := 106, pos := "l07_ivf.go:138", after := #[{ on := 1, ground := Go.Ground.data }, { on := 4, ground := Go.Ground.data }], guard := none }) (v := ?vt5_6) rfl (by kernel_rfl) (by kernel_rfl) (by kernel_rfl) (fun _ _ _ h => h) (Or.inl ⟨by rfl, ?ht5_6⟩) hHeld ?rt5_6
              case ht5_6 =>
                intro wS hSw
                (try dsimp only at hSw)
                go_simp
                try with_reducible rfl
              case rt5_6 =>
              simp only [Act.put, List.setIfInBounds_toArray, List.set_cons_zero, List.set_cons_succ]
              refine wpAnyH_ready (rs := [6]) (by kernel_rfl) (by simp) ?_
              refine AllReadyH.cons (o := { dst := some 12, op := Go.Op.alloc 106, type := 0, pos := "l07_ivf.go:138", after := #[], guard := none }) rfl (fun K hK => ?_) AllReadyH.nil
              have hbX : Below w3.heap.size w3 (w3.alloc (.cells #[.int .i64 0, .slice none 0 0] 106)) := (Below.refl _ _).alloc (Nat.le_refl _) _
              have bX : Box 0 #[.int .i64 0, .slice none 0 0] 106 (w3.alloc (.cells #[.int .i64 0, .slice none 0 0] 106)) w3.heap.size := newBox (Nat.zero_le _)
              have sX : (w3.alloc (.cells #[.int .i64 0, .slice none 0 0] 106)).heap.size = w3.heap.size + 1 := by simp
              replace hI9 := (hI9.later hbX)
              go_simp
              generalize w3.alloc (.cells #[.int .i64 0, .slice none 0 0] 106) = wX at *
              refine hK.out _ _ (hHeld.trans (hbX.mono hHeld.size)) (fun hHeld => ?_)
              clear hK K
              try simp only [Act.put, List.setIfInBounds_toArray, List.set_cons_zero, List.set_cons_succ]
              refine wpAnyH_ready (rs := [7]) (by kernel_rfl) (by simp) ?_
              refine AllReadyH.cons (o := { dst := none, op := Go.Op.store 106 (Go.Operand.tmp 12) (Go.Operand.tmp 54), type := 0, pos := "l07_ivf.go:138", after := #[{ on := 6, ground := Go.Ground.data }, { on := 5, ground := Go.Ground.data }, { on := 4, ground := Go.Ground.chain }, { on := 0, ground := Go.Ground.phase }, { on := 1, ground := Go.Ground.phase }, { on := 2, ground := Go.Ground.phase }, { on := 3, ground := Go.Ground.phase }, { on := 4, ground := Go.Ground.phase }, { on := 5, ground := Go.Ground.phase }, { on := 6, ground := Go.Ground.phase }], guard := none }) rfl (fun K hK => ?_) AllReadyH.nil
              have y0 := bX.at 0 _ rfl
              have y1 := bX.at 1 _ rfl
              have f0 := bX.soft 0
              have f1 := bX.soft 1
              have lX2 := bX.lt
              go_simp
              refine hK.out _ _ ((hHeld.setCell (by simp; omega) _).setCell (by simp; omega) _) (fun hHeld => ?_)
              clear hK K
              try simp only [Act.put, List.setIfInBounds_toArray, List.set_cons_zero, List.set_cons_succ]
              refine wpAnyH_done (by kernel_rfl) ?_ _
              refine NoPanic.normal ?_
              have hbe := (unhide HNB5).trans (hHeld.mono (unhide HNB5).size)
              have HBCE := hide ((bX.set 0 (.int .i64 x.id)).set 1 (.slice a9 x.vec.length c9))
              obtain ⟨v, rows, bls, hcv, hfv, hG, hCont⟩ := (unhide HLr).open hpl
              have hvo : ∀ q, v.ownBlock = some q → wz.heap.size ≤ q ∧ q < wr.heap.size := fun q hq => hG.own.lt q hq
              have hI10 := hI9.ext (((Ext.refl (fun q => q = w3.heap.size) wX).setCell ⟨w3.heap.size, 0, none⟩ (.int .i64 x.id) rfl).setCell ⟨w3.heap.size, 1, none⟩ (.slice a9 x.vec.length c9) rfl) (fun q h1 h2 h3 => by omega)
              obtain ⟨bl9, ho9, hbb9⟩ := hI10
              have hOw := mkOwn_Item (x := ⟨x.id, x.vec⟩) ho9 (unhide HIW) ho9.2.1
              have szE : ((wX.setCell ⟨w3.heap.size, 0, none⟩ (.int .i64 x.id)).setCell ⟨w3.heap.size, 1, none⟩ (.slice a9 x.vec.length c9)).heap.size = wX.heap.size := by simp
              have hbl9 : ∀ q ∈ bl9, wr.heap.size ≤ q ∧ q < wX.heap.size := fun q hq => by have := hbb9 q hq; omega
              have HBXE := hide ((((unhide HBXz).ext (unhide HEr) (by omega))).keep hbe)
              have hbc1 : wr.heap.size ≤ w3.heap.size := by omega
              clear hI9 ho9 hbb9 hO9 hb9 hHeld bX y0 y1 f0 f1 lX2 hDI
              generalize hWE : (wX.setCell ⟨w3.heap.size, 0, none⟩ (.int .i64 x.id)).setCell ⟨w3.heap.size, 1, none⟩ (.slice a9 x.vec.length c9) = WE at *
              rw [← szE] at hbl9
              clear hWE
              go_wp2_with fail
              have hDv : WE.drew.cell? ⟨GL, p, none⟩ = some v := cell_keep hbe.drew hcv
              have hDf : WE.drew.frozen? ⟨GL, p, none⟩ = false := (frozen_of_heap (hbe.drew.block GL (by omega)) p).trans hfv
              have hGF : Grow Lay.tItem WE.drew wz.heap.size 106 v rows (mineI cs (xs.take k) p) bls := hG.later hbe.drew
              have hBF : Below wr.heap.size wr WE.drew := hbe.drew
              have hsF : wr.heap.size ≤ WE.drew.heap.size := hbe.size
              replace hOw : Lay.tItem.Own WE.drew [.int .i64 x.id, .slice a9 x.vec.length c9] ⟨x.id, x.vec⟩ bl9 := hOw.later (Below.refl _ _).drew
              replace hbl9 : ∀ q ∈ bl9, wr.heap.size ≤ q ∧ q < WE.drew.heap.size := hbl9
              clear hcv hfv hG
              refine wp_region_noPanic ?_
              refine wp_region_held_drew (S := fun w' => Ext (fun q => q = GL ∨ v.ownBlock = some q) WE w') (by kernel_rfl) (Ext.refl _ _).drew1 (fun hHeld => ?_)
              generalize WE.drew = wF at hHeld hDv hDf hGF hOw hBF hsF hbl9 ⊢
              refine wpAnyH_take (i := 0) (oi := { dst := some 55, op := Go.Op.fieldAddr 31 (Go.Operand.tmp 5) 1, type := 0, pos := "l07_ivf.go:139", after := #[], guard := none }) (v := ?vva0_1) rfl (by kernel_rfl) (by kernel_rfl) (by kernel_rfl) (fun _ _ _ h => h) (Or.inl ⟨by rfl, ?hva0_1⟩) hHeld ?rva0_1
              case hva0_1 =>
                intro wS hSw
                (try dsimp only at hSw)
                go_simp
                try with_reducible rfl
              case rva0_1 =>
              simp only [Act.put, List.setIfInBounds_toArray, List.set_cons_zero, List.set_cons_succ]
              refine wpAnyH_take (i := 1) (oi := { dst := some 56, op := Go.Op.load 29 (Go.Operand.tmp 55), type := 29, pos := "l07_ivf.go:139", after := #[{ on := 0, ground := Go.Ground.data }], guard := none }) (v := ?vva1_2) rfl (by kernel_rfl) (by kernel_rfl) (by kernel_rfl) (fun _ _ _ h => h) (Or.inl ⟨by rfl, ?hva1_2⟩) hHeld ?rva1_2
              case hva1_2 =>
                intro wS hSw
                have y0 := ((unhide HBXE).ext hSw (fun h => Or.elim h (fun h => absurd h (by omega)) (fun h => by have := hvo _ h; omega))).at 1 _ rfl
                clear hSw
                (try dsimp only at hSw)
                go_simp
                try with_reducible rfl
              case rva1_2 =>
              simp only [Act.put, List.setIfInBounds_toArray, List.set_cons_zero, List.set_cons_succ]
              refine wpAnyH_take (i := 2) (oi := { dst := some 57, op := Go.Op.move (Go.Operand.tmp 10), type := 2, pos := "l07_ivf.go:139", after := #[], guard := none }) (v := ?vva2_3) rfl (by kernel_rfl) (by kernel_rfl) (by kernel_rfl) (fun _ _ _ h => h) (Or.inl ⟨by rfl, ?hva2_3⟩) hHeld ?rva2_3
              case hva2_3 =>
                intro wS hSw
                (try dsimp only at hSw)
                go_simp
                try with_reducible rfl
              case rva2_3 =>
              simp only [Act.put, List.setIfInBounds_toArray, List.set_cons_zero, List.set_cons_succ]
              refine wpAnyH_take (i := 3) (oi := { dst := some 58, op := Go.Op.fieldAddr 31 (Go.Operand.tmp 5) 1, type := 0, pos := "l07_ivf.go:139", after := #[], guard := none }) (v := ?vva3_4) rfl (by kernel_rfl) (by kernel_rfl) (by kernel_rfl) (fun _ _ _ h => h) (Or.inl ⟨by rfl, ?hva3_4⟩) hHeld ?rva3_4
              case hva3_4 =>
                intro wS hSw
                (try dsimp only at hSw)
                go_simp
                try with_reducible rfl
              case rva3_4 =>
              simp only [Act.put, List.setIfInBounds_toArray, List.set_cons_zero, List.set_cons_succ]
              refine wpAnyH_take (i := 4) (oi := { dst := some 59, op := Go.Op.load 29 (Go.Operand.tmp 58), type := 29, pos := "l07_ivf.go:139", after := #[{ on := 3, ground := Go.Ground.data }], guard := none }) (v := ?vva4_5) rfl (by kernel_rfl) (by kernel_rfl) (by kernel_rfl) (fun _ _ _ h => h) (Or.inl ⟨by rfl, ?hva4_5⟩) hHeld ?rva4_5
              case hva4_5 =>
                intro wS hSw
                have y0 := ((unhide HBXE).ext hSw (fun h => Or.elim h (fun h => absurd h (by omega)) (fun h => by have := hvo _ h; omega))).at 1 _ rfl
                clear hSw
                (try dsimp only at hSw)
                go_simp
                try with_reducible rfl
              case rva4_5 =>
              simp only [Act.put, List.setIfInBounds_toArray, List.set_cons_zero, List.set_cons_succ]
              refine wpAnyH_take (i := 5) (oi := { dst := some 60, op := Go.Op.move (Go.Operand.tmp 10), type := 2, pos := "l07_ivf.go:139", after := #[], guard := none }) (v := ?vva5_6) rfl (by kernel_rfl) (by kernel_rfl) (by kernel_rfl) (fun _ _ _ h => h) (Or.inl ⟨by rfl, ?hva5_6⟩) hHeld ?rva5_6
              case hva5_6 =>
                intro wS hSw
                (try dsimp only at hSw)
                go_simp
                try with_reducible rfl
              case rva5_6 =>
              simp only [Act.put, List.setIfInBounds_toArray, List.set_cons_zero, List.set_cons_succ]
              refine wpAnyH_take (i := 6) (oi := { dst := some 61, op := Go.Op.indexAddr 29 (Go.Operand.tmp 59) (Go.Operand.tmp 60), type := 0, pos := "l07_ivf.go:139", after := #[{ on := 4, ground := Go.Ground.data }, { on := 5, ground := Go.Ground.data }], guard := none }) (v := ?vva6_7) rfl (by kernel_rfl) (by kernel_rfl) (by kernel_rfl) (fun _ _ _ h => h) (Or.inl ⟨by rfl, ?hva6_7⟩) hHeld ?rva6_7
              case hva6_7 =>
                intro wS hSw
                (try dsimp only at hSw)
                go_simp
                try with_reducible rfl
              case rva6_7 =>
              simp only [Act.put, List.setIfInBounds_toArray, List.set_cons_zero, List.set_cons_succ]
              refine wpAnyH_take (i := 7) (oi := { dst := some 62, op := Go.Op.fieldAddr 147 (Go.Operand.tmp 61) 0, type := 0, pos := "l07_ivf.go:139", after := #[{ on := 6, ground := Go.Ground.data }], guard := none }) (v := ?vva7_8) rfl (by kernel_rfl) (by kernel_rfl) (by kernel_rfl) (fun _ _ _ h => h) (Or.inl ⟨by rfl, ?hva7_8⟩) hHeld ?rva7_8
              case hva7_8 =>
                intro wS hSw
                (try dsimp only at hSw)
                go_simp
                try with_reducible rfl
              case rva7_8 =>
              simp only [Act.put, List.setIfInBounds_toArray, List.set_cons_zero, List.set_cons_succ]
              refine wpAnyH_take (i := 9) (oi := { dst := some 64, op := Go.Op.load 106 (Go.Operand.tmp 12), type := 106, pos := "l07_ivf.go:139", after := #[], guard := none }) (v := ?vva9_9) rfl (by kernel_rfl) (by kernel_rfl) (by kernel_rfl) (fun _ _ _ h => h) (Or.inl ⟨by rfl, ?hva9_9⟩) hHeld ?rva9_9
              case hva9_9 =>
                intro wS hSw
                have y0 := ((unhide HBCE).ext hSw (fun h => Or.elim h (fun h => absurd h (by omega)) (fun h => by have := hvo _ h; omega))).at 0 _ rfl
                have y1 := ((unhide HBCE).ext hSw (fun h => Or.elim h (fun h => absurd h (by omega)) (fun h => by have := hvo _ h; omega))).at 1 _ rfl
                clear hSw
                (try dsimp only at hSw)
                go_simp
                try with_reducible rfl
              case rva9_9 =>
              simp only [Act.put, List.setIfInBounds_toArray, List.set_cons_zero, List.set_cons_succ]
              refine wpAnyH_ready (rs := [8, 10]) (by kernel_rfl) (by simp) ?_
              refine AllReadyH.cons (o := { dst := some 63, op := Go.Op.load 42 (Go.Operand.tmp 62), type := 42, pos := "l07_ivf.go:139", after := #[{ on := 7, ground := Go.Ground.data }], guard := none }) rfl (fun K hK => ?ova8_10) (AllReadyH.cons (o := { dst := some 65, op := Go.Op.buildSlice 42 1 #[(0, Go.Operand.tmp 64)], type := 42, pos := "l07_ivf.go:139", after := #[{ on := 9, ground := Go.Ground.data }], guard := none }) rfl (fun K hK => ?ova10_10) (AllReadyH.nil))
              case ova8_10 =>
                have hHF := hHeld
                have y8 := hDv
                go_simp
                refine hK.out _ _ hHeld (fun hHeld => ?_)
                clear hK K
                try simp only [Act.put, List.setIfInBounds_toArray, List.set_cons_zero, List.set_cons_succ]
                refine wpAnyH_ready (rs := [10]) (by kernel_rfl) (by simp) ?_
                refine AllReadyH.cons (o := { dst := some 65, op := Go.Op.buildSlice 42 1 #[(0, Go.Operand.tmp 64)], type := 42, pos := "l07_ivf.go:139", after := #[{ on := 9, ground := Go.Ground.data }], guard := none }) rfl (fun K hK => ?_) AllReadyH.nil
                go_simp
                refine hK.out _ _ (hHeld.trans (ext_of_below ((Below.refl _ _).alloc (Nat.le_refl _) _) _)) (fun hHeld => ?_)
                clear hK K
                try simp only [Act.put, List.setIfInBounds_toArray, List.set_cons_zero, List.set_cons_succ]
                refine wpAnyH_ready (rs := [11]) (by kernel_rfl) (by simp) ?_
                refine AllReadyH.cons (o := { dst := some 66, op := Go.Op.call { callee := Go.Callee.builtin Go.Builtin.append, args := #[Go.Operand.tmp 63, Go.Operand.tmp 65], argTypes := #[42, 42] }, type := 42, pos := "l07_ivf.go:139", after := #[{ on := 8, ground := Go.Ground.data }, { on := 10, ground := Go.Ground.data }], guard := none }) rfl (fun K hK => ?_) AllReadyH.nil
                refine step_append_Item hGF (row := [.int .i64 x.id, .slice a9 x.vec.length c9]) (x := ⟨x.id, x.vec⟩) (bl := bl9) hOw.1 (fun q hq e => by have h1 := hvo q e; have h2 := hbl9 q hq; omega) rfl _ _ rfl rfl rfl (by have := mineI_len cs (xs.take k) p; rw [List.length_take] at this; omega) (by omega) ?_
                rintro g5 cp5 w5 hG5 hb5 hE5 hl5 hz5 hor5
                have hE6 := hHF.trans (hE5.mono (S' := fun q => q = GL ∨ v.ownBlock = some q) (fun _ _ h => Or.inr h))
                refine hK.out _ _ hE6 (fun hHeld => ?_)
                clear hK K
                try simp only [Act.put, List.setIfInBounds_toArray, List.set_cons_zero, List.set_cons_succ]
                refine wpAnyH_take (i := 12) (oi := { dst := some 67, op := Go.Op.indexAddr 29 (Go.Operand.tmp 56) (Go.Operand.tmp 57), type := 0, pos := "l07_ivf.go:139", after := #[{ on := 1, ground := Go.Ground.data }, { on := 2, ground := Go.Ground.data }, { on := 0, ground := Go.Ground.phase }, { on := 1, ground := Go.Ground.phase }, { on := 2, ground := Go.Ground.phase }, { on := 3, ground := Go.Ground.phase }, { on := 4, ground := Go.Ground.phase }, { on := 5, ground := Go.Ground.phase }, { on := 6, ground := Go.Ground.phase }, { on := 7, ground := Go.Ground.phase }, { on := 8, ground := Go.Ground.phase }, { on := 9, ground := Go.Ground.phase }, { on := 10, ground := Go.Ground.phase }, { on := 11, ground := Go.Ground.phase }], guard := none }) (v := ?vva12_11) rfl (by kernel_rfl) (by kernel_rfl) (by kernel_rfl) (fun _ _ _ h => h) (Or.inl ⟨by rfl, ?hva12_11⟩) hHeld ?rva12_11
                case hva12_11 =>
                  intro wS hSw
                  (try dsimp only at hSw)
                  go_simp
                  try with_reducible rfl
                case rva12_11 =>
                simp only [Act.put, List.setIfInBounds_toArray, List.set_cons_zero, List.set_cons_succ]
                refine wpAnyH_take (i := 13) (oi := { dst := some 68, op := Go.Op.fieldAddr 147 (Go.Operand.tmp 67) 0, type := 0, pos := "l07_ivf.go:139", after := #[{ on := 12, ground := Go.Ground.data }, { on := 0, ground := Go.Ground.phase }, { on := 1, ground := Go.Ground.phase }, { on := 2, ground := Go.Ground.phase }, { on := 3, ground := Go.Ground.phase }, { on := 4, ground := Go.Ground.phase }, { on := 5, ground := Go.Ground.phase }, { on := 6, ground := Go.Ground.phase }, { on := 7, ground := Go.Ground.phase }, { on := 8, ground := Go.Ground.phase }, { on := 9, ground := Go.Ground.phase }, { on := 10, ground := Go.Ground.phase }, { on := 11, ground := Go.Ground.phase }], guard := none }) (v := ?vva13_12) rfl (by kernel_rfl) (by kernel_rfl) (by kernel_rfl) (fun _ _ _ h => h) (Or.inl ⟨by rfl, ?hva13_12⟩) hHeld ?rva13_12
                case hva13_12 =>
                  intro wS hSw
                  (try dsimp only at hSw)
                  go_simp
                  try with_reducible rfl
                case rva13_12 =>
                simp only [Act.put, List.setIfInBounds_toArray, List.set_cons_zero, List.set_cons_succ]
                refine wpAnyH_ready (rs := [14]) (by kernel_rfl) (by simp) ?_
                refine AllReadyH.cons (o := { dst := none, op := Go.Op.store 42 (Go.Operand.tmp 68) (Go.Operand.tmp 66), type := 0, pos := "l07_ivf.go:139", after := #[{ on := 13, ground := Go.Ground.data }, { on := 11, ground := Go.Ground.data }, { on := 11, ground := Go.Ground.chain }, { on := 0, ground := Go.Ground.phase }, { on := 1, ground := Go.Ground.phase }, { on := 2, ground := Go.Ground.phase }, { on := 3, ground := Go.Ground.phase }, { on := 4, ground := Go.Ground.phase }, { on := 5, ground := Go.Ground.phase }, { on := 6, ground := Go.Ground.phase }, { on := 7, ground := Go.Ground.phase }, { on := 8, ground := Go.Ground.phase }, { on := 9, ground := Go.Ground.phase }, { on := 10, ground := Go.Ground.phase }, { on := 11, ground := Go.Ground.phase }], guard := none }) rfl (fun K hK => ?_) AllReadyH.nil
                have y9 : w5.cell? ⟨GL, p, none⟩ = some v := (cell_of_heap (hE5.block GL (by omega) (fun h => by have := hvo _ h; omega)) p).trans hDv
                have f9 : w5.frozen? ⟨GL, p, none⟩ = false := (frozen_of_heap (hE5.block GL (by omega) (fun h => by have := hvo _ h; omega)) p).trans hDf
                go_simp
                refine hK.out _ _ (hE6.setCell _ _ (Or.inl rfl)) (fun hHeld => ?_)
                clear hK K
                try simp only [Act.put, List.setIfInBounds_toArray, List.set_cons_zero, List.set_cons_succ]
                refine wpAnyH_done (by kernel_rfl) ?_ _
                refine NoPanic.normal ?_
                have hN := (hCont wF w5 _ _ bl9 g5 cp5 hBF hOw hbl9 hG5 hE5 hor5).congr (unhide HST)
                have HN := hide hN
                have HE9 : Hid (Ext (fun q => q = GL) wz (w5.setCell ⟨GL, p, none⟩ (.slice (some ⟨g5, 0, none⟩) ((mineI cs (xs.take k) p).length + 1) cp5))) := ((((unhide HEr).mono (S' := fun q => q = GL ∨ wz.heap.size ≤ q) (fun _ _ h => Or.inl h)).trans ((ext_of_below hbe _).trans (hHeld.mono (fun q _ h => Or.elim h (fun h => Or.inl h) (fun h => Or.inr (hvo q h).1))))).mono (fun q hq h => Or.elim h (fun h => h) (fun h => absurd hq (by omega))))
                clear hHeld hN hCont hG5 hE5 hE6 hGF hOw hHF
                go_wp2_with fail
                go_roundw
                case rel => exact ⟨k + 1, by omega, by go_num, unhide HN, unhide HE9⟩
                case measure => simp [intOf]; omega
              case ova10_10 =>
                have hHF := hHeld
                go_simp
                refine hK.out _ _ (hHeld.trans (ext_of_below ((Below.refl _ _).alloc (Nat.le_refl _) _) _)) (fun hHeld => ?_)
                clear hK K
                try simp only [Act.put, List.setIfInBounds_toArray, List.set_cons_zero, List.set_cons_succ]
                refine wpAnyH_ready (rs := [8]) (by kernel_rfl) (by simp) ?_
                refine AllReadyH.cons (o := { dst := some 63, op := Go.Op.load 42 (Go.Operand.tmp 62), type := 42, pos := "l07_ivf.go:139", after := #[{ on := 7, ground := Go.Ground.data }], guard := none }) rfl (fun K hK => ?_) AllReadyH.nil
                have y8 : (wF.alloc (.cells #[.int .i64 x.id, .slice a9 x.vec.length c9] 106)).cell? ⟨GL, p, none⟩ = some v := cell_keep ((Below.refl _ _).alloc (Nat.le_refl _) _) hDv
                go_simp
                refine hK.out _ _ hHeld (fun hHeld => ?_)
                clear hK K
                try simp only [Act.put, List.setIfInBounds_toArray, List.set_cons_zero, List.set_cons_succ]
                refine wpAnyH_ready (rs := [11]) (by kernel_rfl) (by simp) ?_
                refine AllReadyH.cons (o := { dst := some 66, op := Go.Op.call { callee := Go.Callee.builtin Go.Builtin.append, args := #[Go.Operand.tmp 63, Go.Operand.tmp 65], argTypes := #[42, 42] }, type := 42, pos := "l07_ivf.go:139", after := #[{ on := 8, ground := Go.Ground.data }, { on := 10, ground := Go.Ground.data }], guard := none }) rfl (fun K hK => ?_) AllReadyH.nil
                refine step_append_Item hGF (row := [.int .i64 x.id, .slice a9 x.vec.length c9]) (x := ⟨x.id, x.vec⟩) (bl := bl9) hOw.1 (fun q hq e => by have h1 := hvo q e; have h2 := hbl9 q hq; omega) rfl _ _ rfl rfl rfl (by have := mineI_len cs (xs.take k) p; rw [List.length_take] at this; omega) (by omega) ?_
                rintro g5 cp5 w5 hG5 hb5 hE5 hl5 hz5 hor5
                have hE6 := hHF.trans (hE5.mono (S' := fun q => q = GL ∨ v.ownBlock = some q) (fun _ _ h => Or.inr h))
                refine hK.out _ _ hE6 (fun hHeld => ?_)
                clear hK K
                try simp only [Act.put, List.setIfInBounds_toArray, List.set_cons_zero, List.set_cons_succ]
                refine wpAnyH_take (i := 12) (oi := { dst := some 67, op := Go.Op.indexAddr 29 (Go.Operand.tmp 56) (Go.Operand.tmp 57), type := 0, pos := "l07_ivf.go:139", after := #[{ on := 1, ground := Go.Ground.data }, { on := 2, ground := Go.Ground.data }, { on := 0, ground := Go.Ground.phase }, { on := 1, ground := Go.Ground.phase }, { on := 2, ground := Go.Ground.phase }, { on := 3, ground := Go.Ground.phase }, { on := 4, ground := Go.Ground.phase }, { on := 5, ground := Go.Ground.phase }, { on := 6, ground := Go.Ground.phase }, { on := 7, ground := Go.Ground.phase }, { on := 8, ground := Go.Ground.phase }, { on := 9, ground := Go.Ground.phase }, { on := 10, ground := Go.Ground.phase }, { on := 11, ground := Go.Ground.phase }], guard := none }) (v := ?vva12_13) rfl (by kernel_rfl) (by kernel_rfl) (by kernel_rfl) (fun _ _ _ h => h) (Or.inl ⟨by rfl, ?hva12_13⟩) hHeld ?rva12_13
                case hva12_13 =>
                  intro wS hSw
                  (try dsimp only at hSw)
                  go_simp
                  try with_reducible rfl
                case rva12_13 =>
                simp only [Act.put, List.setIfInBounds_toArray, List.set_cons_zero, List.set_cons_succ]
                refine wpAnyH_take (i := 13) (oi := { dst := some 68, op := Go.Op.fieldAddr 147 (Go.Operand.tmp 67) 0, type := 0, pos := "l07_ivf.go:139", after := #[{ on := 12, ground := Go.Ground.data }, { on := 0, ground := Go.Ground.phase }, { on := 1, ground := Go.Ground.phase }, { on := 2, ground := Go.Ground.phase }, { on := 3, ground := Go.Ground.phase }, { on := 4, ground := Go.Ground.phase }, { on := 5, ground := Go.Ground.phase }, { on := 6, ground := Go.Ground.phase }, { on := 7, ground := Go.Ground.phase }, { on := 8, ground := Go.Ground.phase }, { on := 9, ground := Go.Ground.phase }, { on := 10, ground := Go.Ground.phase }, { on := 11, ground := Go.Ground.phase }], guard := none }) (v := ?vva13_14) rfl (by kernel_rfl) (by kernel_rfl) (by kernel_rfl) (fun _ _ _ h => h) (Or.inl ⟨by rfl, ?hva13_14⟩) hHeld ?rva13_14
                case hva13_14 =>
                  intro wS hSw
                  (try dsimp only at hSw)
                  go_simp
                  try with_reducible rfl
                case rva13_14 =>
                simp only [Act.put, List.setIfInBounds_toArray, List.set_cons_zero, List.set_cons_succ]
                refine wpAnyH_ready (rs := [14]) (by kernel_rfl) (by simp) ?_
                refine AllReadyH.cons (o := { dst := none, op := Go.Op.store 42 (Go.Operand.tmp 68) (Go.Operand.tmp 66), type := 0, pos := "l07_ivf.go:139", after := #[{ on := 13, ground := Go.Ground.data }, { on := 11, ground := Go.Ground.data }, { on := 11, ground := Go.Ground.chain }, { on := 0, ground := Go.Ground.phase }, { on := 1, ground := Go.Ground.phase }, { on := 2, ground := Go.Ground.phase }, { on := 3, ground := Go.Ground.phase }, { on := 4, ground := Go.Ground.phase }, { on := 5, ground := Go.Ground.phase }, { on := 6, ground := Go.Ground.phase }, { on := 7, ground := Go.Ground.phase }, { on := 8, ground := Go.Ground.phase }, { on := 9, ground := Go.Ground.phase }, { on := 10, ground := Go.Ground.phase }, { on := 11, ground := Go.Ground.phase }], guard := none }) rfl (fun K hK => ?_) AllReadyH.nil
                have y9 : w5.cell? ⟨GL, p, none⟩ = some v := (cell_of_heap (hE5.block GL (by omega) (fun h => by have := hvo _ h; omega)) p).trans hDv
                have f9 : w5.frozen? ⟨GL, p, none⟩ = false := (frozen_of_heap (hE5.block GL (by omega) (fun h => by have := hvo _ h; omega)) p).trans hDf
                go_simp
                refine hK.out _ _ (hE6.setCell _ _ (Or.inl rfl)) (fun hHeld => ?_)
                clear hK K
                try simp only [Act.put, List.setIfInBounds_toArray, List.set_cons_zero, List.set_cons_succ]
                refine wpAnyH_done (by kernel_rfl) ?_ _
                refine NoPanic.normal ?_
                have hN := (hCont wF w5 _ _ bl9 g5 cp5 hBF hOw hbl9 hG5 hE5 hor5).congr (unhide HST)
                have HN := hide hN
                have HE9 : Hid (Ext (fun q => q = GL) wz (w5.setCell ⟨GL, p, none⟩ (.slice (some ⟨g5, 0, none⟩) ((mineI cs (xs.take k) p).length + 1) cp5))) := ((((unhide HEr).mono (S' := fun q => q = GL ∨ wz.heap.size ≤ q) (fun _ _ h => Or.inl h)).trans ((ext_of_below hbe _).trans (hHeld.mono (fun q _ h => Or.elim h (fun h => Or.inl h) (fun h => Or.inr (hvo q h).1))))).mono (fun q hq h => Or.elim h (fun h => h) (fun h => absurd hq (by omega))))
                clear hHeld hN hCont hG5 hE5 hE6 hGF hOw hHF
                go_wp2_with fail
                go_roundw
                case rel => exact ⟨k + 1, by omega, by go_num, unhide HN, unhide HE9⟩
                case measure => simp [intOf]; omega
            case ot6_5 =>
              have hbX : Below wD.heap.size wD (wD.alloc (.cells #[.int .i64 0, .slice none 0 0] 106)) := (Below.refl _ _).alloc (Nat.le_refl _) _
              have bX : Box 0 #[.int .i64 0, .slice none 0 0] 106 (wD.alloc (.cells #[.int .i64 0, .slice none 0 0] 106)) wD.heap.size := newBox (Nat.zero_le _)
              have sX : (wD.alloc (.cells #[.int .i64 0, .slice none 0 0] 106)).heap.size = wD.heap.size + 1 := by simp
              replace hDI := hDI.later hbX
              go_simp
              generalize wD.alloc (.cells #[.int .i64 0, .slice none 0 0] 106) = wX at *
              refine hK.out _ _ (hHeld.trans (hbX.mono hHeld.size)) (fun hHeld => ?_)
              clear hK K
              try simp only [Act.put, List.setIfInBounds_toArray, List.set_cons_zero, List.set_cons_succ]
              refine wpAnyH_ready (rs := [4]) (by kernel_rfl) (by simp) ?_
              refine AllReadyH.cons (o := { dst := some 53, op := Go.Op.call { callee := Go.Callee.value (Go.Operand.func 115), args := #[Go.Operand.tmp 52], argTypes := #[51] }, type := 51, pos := "l07_ivf.go:138", after := #[{ on := 3, ground := Go.Ground.data }], guard := none }) rfl (fun K hK => ?_) AllReadyH.nil
              go_simp
              go_at_call 115
              refine (slClone _ _ x.vec _ hDI (by omega)).mono ?_
              rintro e w3 ⟨v9, rfl, hO9, hb9⟩
              have hI9 := Lay.ownInts (unhide HWF) (by omega) hO9
              obtain ⟨a9, c9, rfl⟩ := open_sl hI9.reads
              have sz9 := hb9.size
              replace bX := bX.keep hb9
              try go_wp2_with fail
              refine hK.out _ _ (hHeld.trans (hb9.mono hHeld.size)) (fun hHeld => ?_)
              clear hK K
              try simp only [Act.put, List.setIfInBounds_toArray, List.set_cons_zero, List.set_cons_succ]
              refine wpAnyH_take (i := 5) (oi := { dst := some 54, op := Go.Op.build 106 #[(0, Go.Operand.tmp 50), (1, Go.Operand.tmp 53)], type := 106, pos := "l07_ivf.go:138", after := #[{ on := 1, ground := Go.Ground.data }, { on := 4, ground := Go.Ground.data }], guard := none }) (v := ?vt5_7) rfl (by kernel_rfl) (by kernel_rfl) (by kernel_rfl) (fun _ _ _ h => h) (Or.inl ⟨by rfl, ?ht5_7⟩) hHeld ?rt5_7
              case ht5_7 =>
                intro wS hSw
                (try dsimp only at hSw)
                go_simp
                try with_reducible rfl
              case rt5_7 =>
              simp only [Act.put, List.setIfInBounds_toArray, List.set_cons_zero, List.set_cons_succ]
              refine wpAnyH_ready (rs := [7]) (by kernel_rfl) (by simp) ?_
              refine AllReadyH.cons (o := { dst := none, op := Go.Op.store 106 (Go.Operand.tmp 12) (Go.Operand.tmp 54), type := 0, pos := "l07_ivf.go:138", after := #[{ on := 6, ground := Go.Ground.data }, { on := 5, ground := Go.Ground.data }, { on := 4, ground := Go.Ground.chain }, { on := 0, ground := Go.Ground.phase }, { on := 1, ground := Go.Ground.phase }, { on := 2, ground := Go.Ground.phase }, { on := 3, ground := Go.Ground.phase }, { on := 4, ground := Go.Ground.phase }, { on := 5, ground := Go.Ground.phase }, { on := 6, ground := Go.Ground.phase }], guard := none }) rfl (fun K hK => ?_) AllReadyH.nil
              have y0 := bX.at 0 _ rfl
              have y1 := bX.at 1 _ rfl
              have f0 := bX.soft 0
              have f1 := bX.soft 1
              have lX2 := bX.lt
              go_simp
              refine hK.out _ _ ((hHeld.setCell (by simp; omega) _).setCell (by simp; omega) _) (fun hHeld => ?_)
              clear hK K
              try simp only [Act.put, List.setIfInBounds_toArray, List.set_cons_zero, List.set_cons_succ]
              refine wpAnyH_done (by kernel_rfl) ?_ _
              refine NoPanic.normal ?_
              have hbe := (unhide HNB5).trans (hHeld.mono (unhide HNB5).size)
              have HBCE := hide ((bX.set 0 (.int .i64 x.id)).set 1 (.slice a9 x.vec.length c9))
              obtain ⟨v, rows, bls, hcv, hfv, hG, hCont⟩ := (unhide HLr).open hpl
              have hvo : ∀ q, v.ownBlock = some q → wz.heap.size ≤ q ∧ q < wr.heap.size := fun q hq => hG.own.lt q hq
              have hI10 := hI9.ext (((Ext.refl (fun q => q = wD.heap.size) w3).setCell ⟨wD.heap.size, 0, none⟩ (.int .i64 x.id) rfl).setCell ⟨wD.heap.size, 1, none⟩ (.slice a9 x.vec.length c9) rfl) (fun q h1 h2 h3 => by omega)
              obtain ⟨bl9, ho9, hbb9⟩ := hI10
              have hOw := mkOwn_Item (x := ⟨x.id, x.vec⟩) ho9 (unhide HIW) ho9.2.1
              have szE : ((w3.setCell ⟨wD.heap.size, 0, none⟩ (.int .i64 x.id)).setCell ⟨wD.heap.size, 1, none⟩ (.slice a9 x.vec.length c9)).heap.size = w3.heap.size := by simp
              have hbl9 : ∀ q ∈ bl9, wr.heap.size ≤ q ∧ q < w3.heap.size := fun q hq => by have := hbb9 q hq; omega
              have HBXE := hide ((((unhide HBXz).ext (unhide HEr) (by omega))).keep hbe)
              have hbc1 : wr.heap.size ≤ wD.heap.size := by omega
              clear hI9 ho9 hbb9 hO9 hb9 hHeld bX y0 y1 f0 f1 lX2 hDI
              generalize hWE : (w3.setCell ⟨wD.heap.size, 0, none⟩ (.int .i64 x.id)).setCell ⟨wD.heap.size, 1, none⟩ (.slice a9 x.vec.length c9) = WE at *
              rw [← szE] at hbl9
              clear hWE
              go_wp2_with fail
              have hDv : WE.drew.cell? ⟨GL, p, none⟩ = some v := cell_keep hbe.drew hcv
              have hDf : WE.drew.frozen? ⟨GL, p, none⟩ = false := (frozen_of_heap (hbe.drew.block GL (by omega)) p).trans hfv
              have hGF : Grow Lay.tItem WE.drew wz.heap.size 106 v rows (mineI cs (xs.take k) p) bls := hG.later hbe.drew
              have hBF : Below wr.heap.size wr WE.drew := hbe.drew
              have hsF : wr.heap.size ≤ WE.drew.heap.size := hbe.size
              replace hOw : Lay.tItem.Own WE.drew [.int .i64 x.id, .slice a9 x.vec.length c9] ⟨x.id, x.vec⟩ bl9 := hOw.later (Below.refl _ _).drew
              replace hbl9 : ∀ q ∈ bl9, wr.heap.size ≤ q ∧ q < WE.drew.heap.size := hbl9
              clear hcv hfv hG
              refine wp_region_noPanic ?_
              refine wp_region_held_drew (S := fun w' => Ext (fun q => q = GL ∨ v.ownBlock = some q) WE w') (by kernel_rfl) (Ext.refl _ _).drew1 (fun hHeld => ?_)
              generalize WE.drew = wF at hHeld hDv hDf hGF hOw hBF hsF hbl9 ⊢
              refine wpAnyH_take (i := 0) (oi := { dst := some 55, op := Go.Op.fieldAddr 31 (Go.Operand.tmp 5) 1, type := 0, pos := "l07_ivf.go:139", after := #[], guard := none }) (v := ?vvb0_1) rfl (by kernel_rfl) (by kernel_rfl) (by kernel_rfl) (fun _ _ _ h => h) (Or.inl ⟨by rfl, ?hvb0_1⟩) hHeld ?rvb0_1
              case hvb0_1 =>
                intro wS hSw
                (try dsimp only at hSw)
                go_simp
                try with_reducible rfl
              case rvb0_1 =>
              simp only [Act.put, List.setIfInBounds_toArray, List.set_cons_zero, List.set_cons_succ]
              refine wpAnyH_take (i := 1) (oi := { dst := some 56, op := Go.Op.load 29 (Go.Operand.tmp 55), type := 29, pos := "l07_ivf.go:139", after := #[{ on := 0, ground := Go.Ground.data }], guard := none }) (v := ?vvb1_2) rfl (by kernel_rfl) (by kernel_rfl) (by kernel_rfl) (fun _ _ _ h => h) (Or.inl ⟨by rfl, ?hvb1_2⟩) hHeld ?rvb1_2
              case hvb1_2 =>
                intro wS hSw
                have y0 := ((unhide HBXE).ext hSw (fun h => Or.elim h (fun h => absurd h (by omega)) (fun h => by have := hvo _ h; omega))).at 1 _ rfl
                clear hSw
                (try dsimp only at hSw)
                go_simp
                try with_reducible rfl
              case rvb1_2 =>
              simp only [Act.put, List.setIfInBounds_toArray, List.set_cons_zero, List.set_cons_succ]
              refine wpAnyH_take (i := 2) (oi := { dst := some 57, op := Go.Op.move (Go.Operand.tmp 10), type := 2, pos := "l07_ivf.go:139", after := #[], guard := none }) (v := ?vvb2_3) rfl (by kernel_rfl) (by kernel_rfl) (by kernel_rfl) (fun _ _ _ h => h) (Or.inl ⟨by rfl, ?hvb2_3⟩) hHeld ?rvb2_3
              case hvb2_3 =>
                intro wS hSw
                (try dsimp only at hSw)
                go_simp
                try with_reducible rfl
              case rvb2_3 =>
              simp only [Act.put, List.setIfInBounds_toArray, List.set_cons_zero, List.set_cons_succ]
              refine wpAnyH_take (i := 3) (oi := { dst := some 58, op := Go.Op.fieldAddr 31 (Go.Operand.tmp 5) 1, type := 0, pos := "l07_ivf.go:139", after := #[], guard := none }) (v := ?vvb3_4) rfl (by kernel_rfl) (by kernel_rfl) (by kernel_rfl) (fun _ _ _ h => h) (Or.inl ⟨by rfl, ?hvb3_4⟩) hHeld ?rvb3_4
              case hvb3_4 =>
                intro wS hSw
                (try dsimp only at hSw)
                go_simp
                try with_reducible rfl
              case rvb3_4 =>
              simp only [Act.put, List.setIfInBounds_toArray, List.set_cons_zero, List.set_cons_succ]
              refine wpAnyH_take (i := 4) (oi := { dst := some 59, op := Go.Op.load 29 (Go.Operand.tmp 58), type := 29, pos := "l07_ivf.go:139", after := #[{ on := 3, ground := Go.Ground.data }], guard := none }) (v := ?vvb4_5) rfl (by kernel_rfl) (by kernel_rfl) (by kernel_rfl) (fun _ _ _ h => h) (Or.inl ⟨by rfl, ?hvb4_5⟩) hHeld ?rvb4_5
              case hvb4_5 =>
                intro wS hSw
                have y0 := ((unhide HBXE).ext hSw (fun h => Or.elim h (fun h => absurd h (by omega)) (fun h => by have := hvo _ h; omega))).at 1 _ rfl
                clear hSw
                (try dsimp only at hSw)
                go_simp
                try with_reducible rfl
              case rvb4_5 =>
              simp only [Act.put, List.setIfInBounds_toArray, List.set_cons_zero, List.set_cons_succ]
              refine wpAnyH_take (i := 5) (oi := { dst := some 60, op := Go.Op.move (Go.Operand.tmp 10), type := 2, pos := "l07_ivf.go:139", after := #[], guard := none }) (v := ?vvb5_6) rfl (by kernel_rfl) (by kernel_rfl) (by kernel_rfl) (fun _ _ _ h => h) (Or.inl ⟨by rfl, ?hvb5_6⟩) hHeld ?rvb5_6
              case hvb5_6 =>
                intro wS hSw
                (try dsimp only at hSw)
                go_simp
                try with_reducible rfl
              case rvb5_6 =>
              simp only [Act.put, List.setIfInBounds_toArray, List.set_cons_zero, List.set_cons_succ]
              refine wpAnyH_take (i := 6) (oi := { dst := some 61, op := Go.Op.indexAddr 29 (Go.Operand.tmp 59) (Go.Operand.tmp 60), type := 0, pos := "l07_ivf.go:139", after := #[{ on := 4, ground := Go.Ground.data }, { on := 5, ground := Go.Ground.data }], guard := none }) (v := ?vvb6_7) rfl (by kernel_rfl) (by kernel_rfl) (by kernel_rfl) (fun _ _ _ h => h) (Or.inl ⟨by rfl, ?hvb6_7⟩) hHeld ?rvb6_7
              case hvb6_7 =>
                intro wS hSw
                (try dsimp only at hSw)
                go_simp
                try with_reducible rfl
              case rvb6_7 =>
              simp only [Act.put, List.setIfInBounds_toArray, List.set_cons_zero, List.set_cons_succ]
              refine wpAnyH_take (i := 7) (oi := { dst := some 62, op := Go.Op.fieldAddr 147 (Go.Operand.tmp 61) 0, type := 0, pos := "l07_ivf.go:139", after := #[{ on := 6, ground := Go.Ground.data }], guard := none }) (v := ?vvb7_8) rfl (by kernel_rfl) (by kernel_rfl) (by kernel_rfl) (fun _ _ _ h => h) (Or.inl ⟨by rfl, ?hvb7_8⟩) hHeld ?rvb7_8
              case hvb7_8 =>
                intro wS hSw
                (try dsimp only at hSw)
                go_simp
                try with_reducible rfl
              case rvb7_8 =>
              simp only [Act.put, List.setIfInBounds_toArray, List.set_cons_zero, List.set_cons_succ]
              refine wpAnyH_take (i := 9) (oi := { dst := some 64, op := Go.Op.load 106 (Go.Operand.tmp 12), type := 106, pos := "l07_ivf.go:139", after := #[], guard := none }) (v := ?vvb9_9) rfl (by kernel_rfl) (by kernel_rfl) (by kernel_rfl) (fun _ _ _ h => h) (Or.inl ⟨by rfl, ?hvb9_9⟩) hHeld ?rvb9_9
              case hvb9_9 =>
                intro wS hSw
                have y0 := ((unhide HBCE).ext hSw (fun h => Or.elim h (fun h => absurd h (by omega)) (fun h => by have := hvo _ h; omega))).at 0 _ rfl
                have y1 := ((unhide HBCE).ext hSw (fun h => Or.elim h (fun h => absurd h (by omega)) (fun h => by have := hvo _ h; omega))).at 1 _ rfl
                clear hSw
                (try dsimp only at hSw)
                go_simp
                try with_reducible rfl
              case rvb9_9 =>
              simp only [Act.put, List.setIfInBounds_toArray, List.set_cons_zero, List.set_cons_succ]
              refine wpAnyH_ready (rs := [8, 10]) (by kernel_rfl) (by simp) ?_
              refine AllReadyH.cons (o := { dst := some 63, op := Go.Op.load 42 (Go.Operand.tmp 62), type := 42, pos := "l07_ivf.go:139", after := #[{ on := 7, ground := Go.Ground.data }], guard := none }) rfl (fun K hK => ?ovb8_10) (AllReadyH.cons (o := { dst := some 65, op := Go.Op.buildSlice 42 1 #[(0, Go.Operand.tmp 64)], type := 42, pos := "l07_ivf.go:139", after := #[{ on := 9, ground := Go.Ground.data }], guard := none }) rfl (fun K hK => ?ovb10_10) (AllReadyH.nil))
              case ovb8_10 =>
                have hHF := hHeld
                have y8 := hDv
                go_simp
                refine hK.out _ _ hHeld (fun hHeld => ?_)
                clear hK K
                try simp only [Act.put, List.setIfInBounds_toArray, List.set_cons_zero, List.set_cons_succ]
                refine wpAnyH_ready (rs := [10]) (by kernel_rfl) (by simp) ?_
                refine AllReadyH.cons (o := { dst := some 65, op := Go.Op.buildSlice 42 1 #[(0, Go.Operand.tmp 64)], type := 42, pos := "l07_ivf.go:139", after := #[{ on := 9, ground := Go.Ground.data }], guard := none }) rfl (fun K hK => ?_) AllReadyH.nil
                go_simp
                refine hK.out _ _ (hHeld.trans (ext_of_below ((Below.refl _ _).alloc (Nat.le_refl _) _) _)) (fun hHeld => ?_)
                clear hK K
                try simp only [Act.put, List.setIfInBounds_toArray, List.set_cons_zero, List.set_cons_succ]
                refine wpAnyH_ready (rs := [11]) (by kernel_rfl) (by simp) ?_
                refine AllReadyH.cons (o := { dst := some 66, op := Go.Op.call { callee := Go.Callee.builtin Go.Builtin.append, args := #[Go.Operand.tmp 63, Go.Operand.tmp 65], argTypes := #[42, 42] }, type := 42, pos := "l07_ivf.go:139", after := #[{ on := 8, ground := Go.Ground.data }, { on := 10, ground := Go.Ground.data }], guard := none }) rfl (fun K hK => ?_) AllReadyH.nil
                refine step_append_Item hGF (row := [.int .i64 x.id, .slice a9 x.vec.length c9]) (x := ⟨x.id, x.vec⟩) (bl := bl9) hOw.1 (fun q hq e => by have h1 := hvo q e; have h2 := hbl9 q hq; omega) rfl _ _ rfl rfl rfl (by have := mineI_len cs (xs.take k) p; rw [List.length_take] at this; omega) (by omega) ?_
                rintro g5 cp5 w5 hG5 hb5 hE5 hl5 hz5 hor5
                have hE6 := hHF.trans (hE5.mono (S' := fun q => q = GL ∨ v.ownBlock = some q) (fun _ _ h => Or.inr h))
                refine hK.out _ _ hE6 (fun hHeld => ?_)
                clear hK K
                try simp only [Act.put, List.setIfInBounds_toArray, List.set_cons_zero, List.set_cons_succ]
                refine wpAnyH_take (i := 12) (oi := { dst := some 67, op := Go.Op.indexAddr 29 (Go.Operand.tmp 56) (Go.Operand.tmp 57), type := 0, pos := "l07_ivf.go:139", after := #[{ on := 1, ground := Go.Ground.data }, { on := 2, ground := Go.Ground.data }, { on := 0, ground := Go.Ground.phase }, { on := 1, ground := Go.Ground.phase }, { on := 2, ground := Go.Ground.phase }, { on := 3, ground := Go.Ground.phase }, { on := 4, ground := Go.Ground.phase }, { on := 5, ground := Go.Ground.phase }, { on := 6, ground := Go.Ground.phase }, { on := 7, ground := Go.Ground.phase }, { on := 8, ground := Go.Ground.phase }, { on := 9, ground := Go.Ground.phase }, { on := 10, ground := Go.Ground.phase }, { on := 11, ground := Go.Ground.phase }], guard := none }) (v := ?vvb12_11) rfl (by kernel_rfl) (by kernel_rfl) (by kernel_rfl) (fun _ _ _ h => h) (Or.inl ⟨by rfl, ?hvb12_11⟩) hHeld ?rvb12_11
                case hvb12_11 =>
                  intro wS hSw
                  (try dsimp only at hSw)
                  go_simp
                  try with_reducible rfl
                case rvb12_11 =>
                simp only [Act.put, List.setIfInBounds_toArray, List.set_cons_zero, List.set_cons_succ]
                refine wpAnyH_take (i := 13) (oi := { dst := some 68, op := Go.Op.fieldAddr 147 (Go.Operand.tmp 67) 0, type := 0, pos := "l07_ivf.go:139", after := #[{ on := 12, ground := Go.Ground.data }, { on := 0, ground := Go.Ground.phase }, { on := 1, ground := Go.Ground.phase }, { on := 2, ground := Go.Ground.phase }, { on := 3, ground := Go.Ground.phase }, { on := 4, ground := Go.Ground.phase }, { on := 5, ground := Go.Ground.phase }, { on := 6, ground := Go.Ground.phase }, { on := 7, ground := Go.Ground.phase }, { on := 8, ground := Go.Ground.phase }, { on := 9, ground := Go.Ground.phase }, { on := 10, ground := Go.Ground.phase }, { on := 11, ground := Go.Ground.phase }], guard := none }) (v := ?vvb13_12) rfl (by kernel_rfl) (by kernel_rfl) (by kernel_rfl) (fun _ _ _ h => h) (Or.inl ⟨by rfl, ?hvb13_12⟩) hHeld ?rvb13_12
                case hvb13_12 =>
                  intro wS hSw
                  (try dsimp only at hSw)
                  go_simp
                  try with_reducible rfl
                case rvb13_12 =>
                simp only [Act.put, List.setIfInBounds_toArray, List.set_cons_zero, List.set_cons_succ]
                refine wpAnyH_ready (rs := [14]) (by kernel_rfl) (by simp) ?_
                refine AllReadyH.cons (o := { dst := none, op := Go.Op.store 42 (Go.Operand.tmp 68) (Go.Operand.tmp 66), type := 0, pos := "l07_ivf.go:139", after := #[{ on := 13, ground := Go.Ground.data }, { on := 11, ground := Go.Ground.data }, { on := 11, ground := Go.Ground.chain }, { on := 0, ground := Go.Ground.phase }, { on := 1, ground := Go.Ground.phase }, { on := 2, ground := Go.Ground.phase }, { on := 3, ground := Go.Ground.phase }, { on := 4, ground := Go.Ground.phase }, { on := 5, ground := Go.Ground.phase }, { on := 6, ground := Go.Ground.phase }, { on := 7, ground := Go.Ground.phase }, { on := 8, ground := Go.Ground.phase }, { on := 9, ground := Go.Ground.phase }, { on := 10, ground := Go.Ground.phase }, { on := 11, ground := Go.Ground.phase }], guard := none }) rfl (fun K hK => ?_) AllReadyH.nil
                have y9 : w5.cell? ⟨GL, p, none⟩ = some v := (cell_of_heap (hE5.block GL (by omega) (fun h => by have := hvo _ h; omega)) p).trans hDv
                have f9 : w5.frozen? ⟨GL, p, none⟩ = false := (frozen_of_heap (hE5.block GL (by omega) (fun h => by have := hvo _ h; omega)) p).trans hDf
                go_simp
                refine hK.out _ _ (hE6.setCell _ _ (Or.inl rfl)) (fun hHeld => ?_)
                clear hK K
                try simp only [Act.put, List.setIfInBounds_toArray, List.set_cons_zero, List.set_cons_succ]
                refine wpAnyH_done (by kernel_rfl) ?_ _
                refine NoPanic.normal ?_
                have hN := (hCont wF w5 _ _ bl9 g5 cp5 hBF hOw hbl9 hG5 hE5 hor5).congr (unhide HST)
                have HN := hide hN
                have HE9 : Hid (Ext (fun q => q = GL) wz (w5.setCell ⟨GL, p, none⟩ (.slice (some ⟨g5, 0, none⟩) ((mineI cs (xs.take k) p).length + 1) cp5))) := ((((unhide HEr).mono (S' := fun q => q = GL ∨ wz.heap.size ≤ q) (fun _ _ h => Or.inl h)).trans ((ext_of_below hbe _).trans (hHeld.mono (fun q _ h => Or.elim h (fun h => Or.inl h) (fun h => Or.inr (hvo q h).1))))).mono (fun q hq h => Or.elim h (fun h => h) (fun h => absurd hq (by omega))))
                clear hHeld hN hCont hG5 hE5 hE6 hGF hOw hHF
                go_wp2_with fail
                go_roundw
                case rel => exact ⟨k + 1, by omega, by go_num, unhide HN, unhide HE9⟩
                case measure => simp [intOf]; omega
              case ovb10_10 =>
                have hHF := hHeld
                go_simp
                refine hK.out _ _ (hHeld.trans (ext_of_below ((Below.refl _ _).alloc (Nat.le_refl _) _) _)) (fun hHeld => ?_)
                clear hK K
                try simp only [Act.put, List.setIfInBounds_toArray, List.set_cons_zero, List.set_cons_succ]
                refine wpAnyH_ready (rs := [8]) (by kernel_rfl) (by simp) ?_
                refine AllReadyH.cons (o := { dst := some 63, op := Go.Op.load 42 (Go.Operand.tmp 62), type := 42, pos := "l07_ivf.go:139", after := #[{ on := 7, ground := Go.Ground.data }], guard := none }) rfl (fun K hK => ?_) AllReadyH.nil
                have y8 : (wF.alloc (.cells #[.int .i64 x.id, .slice a9 x.vec.length c9] 106)).cell? ⟨GL, p, none⟩ = some v := cell_keep ((Below.refl _ _).alloc (Nat.le_refl _) _) hDv
                go_simp
                refine hK.out _ _ hHeld (fun hHeld => ?_)
                clear hK K
                try simp only [Act.put, List.setIfInBounds_toArray, List.set_cons_zero, List.set_cons_succ]
                refine wpAnyH_ready (rs := [11]) (by kernel_rfl) (by simp) ?_
                refine AllReadyH.cons (o := { dst := some 66, op := Go.Op.call { callee := Go.Callee.builtin Go.Builtin.append, args := #[Go.Operand.tmp 63, Go.Operand.tmp 65], argTypes := #[42, 42] }, type := 42, pos := "l07_ivf.go:139", after := #[{ on := 8, ground := Go.Ground.data }, { on := 10, ground := Go.Ground.data }], guard := none }) rfl (fun K hK => ?_) AllReadyH.nil
                refine step_append_Item hGF (row := [.int .i64 x.id, .slice a9 x.vec.length c9]) (x := ⟨x.id, x.vec⟩) (bl := bl9) hOw.1 (fun q hq e => by have h1 := hvo q e; have h2 := hbl9 q hq; omega) rfl _ _ rfl rfl rfl (by have := mineI_len cs (xs.take k) p; rw [List.length_take] at this; omega) (by omega) ?_
                rintro g5 cp5 w5 hG5 hb5 hE5 hl5 hz5 hor5
                have hE6 := hHF.trans (hE5.mono (S' := fun q => q = GL ∨ v.ownBlock = some q) (fun _ _ h => Or.inr h))
                refine hK.out _ _ hE6 (fun hHeld => ?_)
                clear hK K
                try simp only [Act.put, List.setIfInBounds_toArray, List.set_cons_zero, List.set_cons_succ]
                refine wpAnyH_take (i := 12) (oi := { dst := some 67, op := Go.Op.indexAddr 29 (Go.Operand.tmp 56) (Go.Operand.tmp 57), type := 0, pos := "l07_ivf.go:139", after := #[{ on := 1, ground := Go.Ground.data }, { on := 2, ground := Go.Ground.data }, { on := 0, ground := Go.Ground.phase }, { on := 1, ground := Go.Ground.phase }, { on := 2, ground := Go.Ground.phase }, { on := 3, ground := Go.Ground.phase }, { on := 4, ground := Go.Ground.phase }, { on := 5, ground := Go.Ground.phase }, { on := 6, ground := Go.Ground.phase }, { on := 7, ground := Go.Ground.phase }, { on := 8, ground := Go.Ground.phase }, { on := 9, ground := Go.Ground.phase }, { on := 10, ground := Go.Ground.phase }, { on := 11, ground := Go.Ground.phase }], guard := none }) (v := ?vvb12_13) rfl (by kernel_rfl) (by kernel_rfl) (by kernel_rfl) (fun _ _ _ h => h) (Or.inl ⟨by rfl, ?hvb12_13⟩) hHeld ?rvb12_13
                case hvb12_13 =>
                  intro wS hSw
                  (try dsimp only at hSw)
                  go_simp
                  try with_reducible rfl
                case rvb12_13 =>
                simp only [Act.put, List.setIfInBounds_toArray, List.set_cons_zero, List.set_cons_succ]
                refine wpAnyH_take (i := 13) (oi := { dst := some 68, op := Go.Op.fieldAddr 147 (Go.Operand.tmp 67) 0, type := 0, pos := "l07_ivf.go:139", after := #[{ on := 12, ground := Go.Ground.data }, { on := 0, ground := Go.Ground.phase }, { on := 1, ground := Go.Ground.phase }, { on := 2, ground := Go.Ground.phase }, { on := 3, ground := Go.Ground.phase }, { on := 4, ground := Go.Ground.phase }, { on := 5, ground := Go.Ground.phase }, { on := 6, ground := Go.Ground.phase }, { on := 7, ground := Go.Ground.phase }, { on := 8, ground := Go.Ground.phase }, { on := 9, ground := Go.Ground.phase }, { on := 10, ground := Go.Ground.phase }, { on := 11, ground := Go.Ground.phase }], guard := none }) (v := ?vvb13_14) rfl (by kernel_rfl) (by kernel_rfl) (by kernel_rfl) (fun _ _ _ h => h) (Or.inl ⟨by rfl, ?hvb13_14⟩) hHeld ?rvb13_14
                case hvb13_14 =>
                  intro wS hSw
                  (try dsimp only at hSw)
                  go_simp
                  try with_reducible rfl
                case rvb13_14 =>
                simp only [Act.put, List.setIfInBounds_toArray, List.set_cons_zero, List.set_cons_succ]
                refine wpAnyH_ready (rs := [14]) (by kernel_rfl) (by simp) ?_
                refine AllReadyH.cons (o := { dst := none, op := Go.Op.store 42 (Go.Operand.tmp 68) (Go.Operand.tmp 66), type := 0, pos := "l07_ivf.go:139", after := #[{ on := 13, ground := Go.Ground.data }, { on := 11, ground := Go.Ground.data }, { on := 11, ground := Go.Ground.chain }, { on := 0, ground := Go.Ground.phase }, { on := 1, ground := Go.Ground.phase }, { on := 2, ground := Go.Ground.phase }, { on := 3, ground := Go.Ground.phase }, { on := 4, ground := Go.Ground.phase }, { on := 5, ground := Go.Ground.phase }, { on := 6, ground := Go.Ground.phase }, { on := 7, ground := Go.Ground.phase }, { on := 8, ground := Go.Ground.phase }, { on := 9, ground := Go.Ground.phase }, { on := 10, ground := Go.Ground.phase }, { on := 11, ground := Go.Ground.phase }], guard := none }) rfl (fun K hK => ?_) AllReadyH.nil
                have y9 : w5.cell? ⟨GL, p, none⟩ = some v := (cell_of_heap (hE5.block GL (by omega) (fun h => by have := hvo _ h; omega)) p).trans hDv
                have f9 : w5.frozen? ⟨GL, p, none⟩ = false := (frozen_of_heap (hE5.block GL (by omega) (fun h => by have := hvo _ h; omega)) p).trans hDf
                go_simp
                refine hK.out _ _ (hE6.setCell _ _ (Or.inl rfl)) (fun hHeld => ?_)
                clear hK K
                try simp only [Act.put, List.setIfInBounds_toArray, List.set_cons_zero, List.set_cons_succ]
                refine wpAnyH_done (by kernel_rfl) ?_ _
                refine NoPanic.normal ?_
                have hN := (hCont wF w5 _ _ bl9 g5 cp5 hBF hOw hbl9 hG5 hE5 hor5).congr (unhide HST)
                have HN := hide hN
                have HE9 : Hid (Ext (fun q => q = GL) wz (w5.setCell ⟨GL, p, none⟩ (.slice (some ⟨g5, 0, none⟩) ((mineI cs (xs.take k) p).length + 1) cp5))) := ((((unhide HEr).mono (S' := fun q => q = GL ∨ wz.heap.size ≤ q) (fun _ _ h => Or.inl h)).trans ((ext_of_below hbe _).trans (hHeld.mono (fun q _ h => Or.elim h (fun h => Or.inl h) (fun h => Or.inr (hvo q h).1))))).mono (fun q hq h => Or.elim h (fun h => h) (fun h => absurd hq (by omega))))
                clear hHeld hN hCont hG5 hE5 hE6 hGF hOw hHF
                go_wp2_with fail
                go_roundw
                case rel => exact ⟨k + 1, by omega, by go_num, unhide HN, unhide HE9⟩
                case measure => simp [intOf]; omega
          · obtain rfl : k = xs.length := by omega
            rw [List.take_length] at hL
            obtain ⟨blL, oL, rL⟩ := hL.done (by omega) (fun i _ => by have := mineI_len cs xs i; have := (tableFault_zero (unhide HXR)).1; omega)
            have oC := (unhide HOC).ext hE (fun q hq e => by have := unhide HRC q hq; omega)
            have ltC := (unhide HOC).lt
            have hdj : (blC ++ blL).Nodup := by
              rw [List.nodup_append]
              refine ⟨oC.2.1, oL.2.1, fun q hq r hr e => ?_⟩
              have q1 := unhide HRC q hq
              have q2 := ltC q hq
              have q3 := rL r hr
              omega
            have hO := mkOwn_Ivf (x := buildI cs xs) oC oL hdj
            have hlo : ∀ q ∈ blC ++ blL, w1.heap.size ≤ q ∧ q < wr.heap.size := fun q hq => by
              refine ⟨?_, hO.lt q hq⟩
              rcases List.mem_append.1 hq with hq | hq
              · have q1 := unhide HRC q hq; omega
              · have q3 := rL q hq; omega
            have bX9 := ((unhide HBXz).ext hE (by omega))
            have bR9 := (unhide HR).keep hBr
            have x0 := bX9.at 0 _ rfl
            have x1 := bX9.at 1 _ rfl
            have z0 := bR9.at 0 _ rfl
            have z1 := bR9.at 1 _ rfl
            have f0 := bR9.soft 0
            have f1 := bR9.soft 1
            have l0 := bR9.lt
            have HO9 := hide hO
            have HLO := hide hlo
            have HB9 := hide ((unhide HB).trans (hBr.mono (unhide HB).size))
            clear hL hE hBr oC oL ltC hdj hO hlo bX9 bR9 rL
            go_wp2_with fail
            refine bodyPost_ret (v := .agg #[.slice (some ⟨GC, 0, none⟩) cs.length cs.length, .slice (some ⟨GL, 0, none⟩) cs.length cs.length]) (by simp [results, Try.results66, go_sem, z0, z1]) rfl ?_
            have hE9 : Ext (fun c => c = w.heap.size) wr ((wr.setCell ⟨w.heap.size, 0, none⟩ (.slice (some ⟨GC, 0, none⟩) cs.length cs.length)).setCell ⟨w.heap.size, 1, none⟩ (.slice (some ⟨GL, 0, none⟩) cs.length cs.length)) := ((Ext.refl (fun c => c = w.heap.size) _).setCell ⟨w.heap.size, 0, none⟩ _ rfl).setCell ⟨w.heap.size, 1, none⟩ _ rfl
            refine ⟨_, _, rfl, ⟨_, _, _, rfl⟩, ⟨_, _, _, rfl⟩, ⟨blC ++ blL, (unhide HO9).ext hE9 (fun q hq e => by have := unhide HLO q hq; omega), fun q hq => ?_⟩, ((unhide HB9).setCell (by simp) _).setCell (by simp) _⟩
            have := unhide HLO q hq
            simp
            omega

end Go.Proofs.Ytfgadegpdknocaa
