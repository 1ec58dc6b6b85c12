/-
  The model's l4Apply: a right write applied to a right table, in new memory; nothing old is written.
  Condition: the table and the write are right (premises).
-/
import Derived.Test.YteekfapjfpkidabSpecSet2
import Derived.Test.YteekfapjfpkidabSpecAsk
import Derived.Test.YteekfapjfpkidabApplyPlain
import Derived.Deep.RegionHeld3
namespace Go.Proofs.Yteekfapjfpkidab
open Go.RowKit

theorem WriteAtO.later {w w' : World} {b o : Nat} {k i s q : Int} {v : Value} (h : WriteAtO w b o k i v s q) (hb : Below w.heap.size w w') : WriteAtO w' b o k i v s q :=
  ⟨cell_keep hb h.1, cell_keep hb h.2.1, cell_keep hb h.2.2.1, cell_keep hb h.2.2.2.1, cell_keep hb h.2.2.2.2⟩

set_option maxRecDepth 100000 in
set_option maxHeartbeats 2000000 in
theorem specApplyC (v : Value) (xs : List DItem) (b o : Nat) (vv : Value) (x : DWrite) (w : World) (h : (Lay.sl Lay.tItem).Reads w [v] xs) (hR : Right xs) (hA : WriteAtO w b o x.kind x.id vv x.session x.seq) (hv : (Lay.sl Lay.int).Reads w [vv] x.vec) (hx : wF x = 0) :
    Calls Try.prog 50 #[v, .pointer (some ⟨b, o, none⟩)] w fun e w' => ∃ v', e = .returned v' ∧ (Lay.sl Lay.tItem).LiesIn w' [v'] (applyI xs x) w.heap.size w'.heap.size ∧ Below w.heap.size w w' := by
  obtain ⟨hi, -, -, hk⟩ := writeFault_zero hx
  have hw := id_wf (idB_of hi)
  obtain ⟨s1, s2⟩ := right_small hR
  obtain ⟨hlen, -, hris⟩ := tableFault_zero hR
  obtain ⟨c0, c1, c2, -, -⟩ := hA
  have hbl : b < w.heap.size := World.block_lt_of_cell? _ _ c0
  obtain ⟨ao, cap, rfl⟩ := open_sl h
  obtain ⟨a2, d2, rfl⟩ := open_sl hv
  rcases hk with ⟨hk1, hvf⟩ | ⟨hk2, -⟩
  · have hv3 := (vecFault_zero hvf).1
    have LP : Hid (∀ W, Below w.heap.size w W → Calls Try.prog 73 #[.slice ao xs.length cap, .int .i64 x.id, .slice a2 x.vec.length d2, .bool true] W fun e w' => ∃ v', e = .returned v' ∧ (Lay.sl Lay.tItem).LiesIn w' [v'] (putI xs x.id x.vec) W.heap.size w'.heap.size ∧ Below W.heap.size W w') := fun W hW => by
      have L := specSet _ xs x.id x.vec _ true W (h.later hW) (hv.later hW) hw s1 s2 (by omega)
      rw [setM_put hris] at L
      exact L
    have LA := hide (specAt _ xs x.id w h)
    have LC := hide (specCopy _ xs w h (by omega) s2)
    rw [hk1] at c0
    have HK := hide hk1
    have HB := hide (Below.refl w.heap.size w)
    have HDZ : Hid (w.heap.size ≤ w.drew.heap.size) := Nat.le_refl _
    clear h hv hvf hv3 hw hi s1 s2 hris hR hx hk1
    cases hro : roomB xs x.id with
    | true =>
      have HE : Hid (applyI xs x = putI xs x.id x.vec) := by
        show applyI xs x = _
        rw [applyI, if_neg (by rw [unhide HK]; decide), hro, if_pos rfl]
      by_cases hl : xs.length < 30
      · have hd : decide ((30 : Int) ≤ (xs.length : Int)) = false := by simp; omega
        clear hro LA LC
        go_enter Try.func50, Try.ntmps50
        go_wp2_with fail
        refine wp_region_noPanic ?_
        refine wp_region_held_drew (S := fun w' => Below w.heap.size w w') (by kernel_rfl) (unhide HB).drew (fun hHeld => ?_)
        generalize w.drew = wD at hHeld HDZ ⊢
        refine wpAnyH_take (i := 0) (oi := { dst := some 30, op := Go.Op.move (Go.Operand.tmp 0), type := 28, pos := "l04_table.go:135", after := #[], guard := none }) (v := ?vp0) rfl (by kernel_rfl) (by kernel_rfl) (by kernel_rfl) (fun _ _ _ h => h) (Or.inl ⟨by rfl, ?hp0⟩) hHeld ?rp0
        case hp0 =>
          intro wS hSw
          (try dsimp only at hSw)
          go_simp
          try with_reducible rfl
        case rp0 =>
        simp only [Act.put, List.setIfInBounds_toArray, List.set_cons_zero, List.set_cons_succ]
        refine wpAnyH_take (i := 1) (oi := { dst := some 31, op := Go.Op.move (Go.Operand.tmp 1), type := 84, pos := "l04_table.go:135", after := #[], guard := none }) (v := ?vp1) rfl (by kernel_rfl) (by kernel_rfl) (by kernel_rfl) (fun _ _ _ h => h) (Or.inl ⟨by rfl, ?hp1⟩) hHeld ?rp1
        case hp1 =>
          intro wS hSw
          (try dsimp only at hSw)
          go_simp
          try with_reducible rfl
        case rp1 =>
        simp only [Act.put, List.setIfInBounds_toArray, List.set_cons_zero, List.set_cons_succ]
        refine wpAnyH_take (i := 2) (oi := { dst := some 32, op := Go.Op.nilCheck (Go.Operand.tmp 31), type := 0, pos := "l04_table.go:135", after := #[{ on := 1, ground := Go.Ground.data }], guard := none }) (v := ?vp2) rfl (by kernel_rfl) (by kernel_rfl) (by kernel_rfl) (fun _ _ _ h => h) (Or.inl ⟨by rfl, ?hp2⟩) hHeld ?rp2
        case hp2 =>
          intro wS hSw
          (try dsimp only at hSw)
          go_simp
          try with_reducible rfl
        case rp2 =>
        simp only [Act.put, List.setIfInBounds_toArray, List.set_cons_zero, List.set_cons_succ]
        refine wpAnyH_take (i := 3) (oi := { dst := some 33, op := Go.Op.fieldAddr 33 (Go.Operand.tmp 32) 1, type := 0, pos := "l04_table.go:135", after := #[{ on := 2, ground := Go.Ground.data }], guard := none }) (v := ?vp3) rfl (by kernel_rfl) (by kernel_rfl) (by kernel_rfl) (fun _ _ _ h => h) (Or.inl ⟨by rfl, ?hp3⟩) hHeld ?rp3
        case hp3 =>
          intro wS hSw
          (try dsimp only at hSw)
          go_simp
          try with_reducible rfl
        case rp3 =>
        simp only [Act.put, List.setIfInBounds_toArray, List.set_cons_zero, List.set_cons_succ]
        refine wpAnyH_take (i := 4) (oi := { dst := some 34, op := Go.Op.load 2 (Go.Operand.tmp 33), type := 2, pos := "l04_table.go:135", after := #[{ on := 3, ground := Go.Ground.data }], guard := none }) (v := ?vp4) rfl (by kernel_rfl) (by kernel_rfl) (by kernel_rfl) (fun _ _ _ h => h) (Or.inl ⟨by rfl, ?hp4⟩) hHeld ?rp4
        case hp4 =>
          intro wS hSw
          have y1 := (hSw.cell (p := ⟨b, o + 1, none⟩) hbl).trans c1
          have y2 := (hSw.cell (p := ⟨b, o + 2, none⟩) hbl).trans c2
          clear hSw
          (try dsimp only at hSw)
          go_simp
          try with_reducible rfl
        case rp4 =>
        simp only [Act.put, List.setIfInBounds_toArray, List.set_cons_zero, List.set_cons_succ]
        refine wpAnyH_take (i := 5) (oi := { dst := some 35, op := Go.Op.move (Go.Operand.tmp 1), type := 84, pos := "l04_table.go:135", after := #[], guard := none }) (v := ?vp5) rfl (by kernel_rfl) (by kernel_rfl) (by kernel_rfl) (fun _ _ _ h => h) (Or.inl ⟨by rfl, ?hp5⟩) hHeld ?rp5
        case hp5 =>
          intro wS hSw
          (try dsimp only at hSw)
          go_simp
          try with_reducible rfl
        case rp5 =>
        simp only [Act.put, List.setIfInBounds_toArray, List.set_cons_zero, List.set_cons_succ]
        refine wpAnyH_take (i := 6) (oi := { dst := some 36, op := Go.Op.nilCheck (Go.Operand.tmp 35), type := 0, pos := "l04_table.go:135", after := #[{ on := 5, ground := Go.Ground.data }], guard := none }) (v := ?vp6) rfl (by kernel_rfl) (by kernel_rfl) (by kernel_rfl) (fun _ _ _ h => h) (Or.inl ⟨by rfl, ?hp6⟩) hHeld ?rp6
        case hp6 =>
          intro wS hSw
          (try dsimp only at hSw)
          go_simp
          try with_reducible rfl
        case rp6 =>
        simp only [Act.put, List.setIfInBounds_toArray, List.set_cons_zero, List.set_cons_succ]
        refine wpAnyH_take (i := 7) (oi := { dst := some 37, op := Go.Op.fieldAddr 33 (Go.Operand.tmp 36) 2, type := 0, pos := "l04_table.go:135", after := #[{ on := 6, ground := Go.Ground.data }], guard := none }) (v := ?vp7) rfl (by kernel_rfl) (by kernel_rfl) (by kernel_rfl) (fun _ _ _ h => h) (Or.inl ⟨by rfl, ?hp7⟩) hHeld ?rp7
        case hp7 =>
          intro wS hSw
          (try dsimp only at hSw)
          go_simp
          try with_reducible rfl
        case rp7 =>
        simp only [Act.put, List.setIfInBounds_toArray, List.set_cons_zero, List.set_cons_succ]
        refine wpAnyH_take (i := 8) (oi := { dst := some 38, op := Go.Op.load 23 (Go.Operand.tmp 37), type := 23, pos := "l04_table.go:135", after := #[{ on := 7, ground := Go.Ground.data }], guard := none }) (v := ?vp8) rfl (by kernel_rfl) (by kernel_rfl) (by kernel_rfl) (fun _ _ _ h => h) (Or.inl ⟨by rfl, ?hp8⟩) hHeld ?rp8
        case hp8 =>
          intro wS hSw
          have y1 := (hSw.cell (p := ⟨b, o + 1, none⟩) hbl).trans c1
          have y2 := (hSw.cell (p := ⟨b, o + 2, none⟩) hbl).trans c2
          clear hSw
          (try dsimp only at hSw)
          go_simp
          try with_reducible rfl
        case rp8 =>
        simp only [Act.put, List.setIfInBounds_toArray, List.set_cons_zero, List.set_cons_succ]
        refine wpAnyH_ready (rs := [9]) (by kernel_rfl) (by simp) ?_
        refine AllReadyH.cons (o := { dst := some 39, op := Go.Op.call { callee := Go.Callee.value (Go.Operand.func 73), args := #[Go.Operand.tmp 30, Go.Operand.tmp 34, Go.Operand.tmp 38, Go.Operand.const (Go.Value.bool true)], argTypes := #[28, 2, 23, 4] }, type := 28, pos := "l04_table.go:135", after := #[{ on := 0, ground := Go.Ground.data }, { on := 4, ground := Go.Ground.data }, { on := 8, ground := Go.Ground.data }], guard := none }) rfl (fun K hK => ?_) AllReadyH.nil
        go_simp
        go_at_call 73
        refine (unhide LP _ hHeld).mono ?_
        rintro e w3 ⟨v3, rfl, hO, hbw⟩
        try go_wp2_with fail
        refine hK.out _ _ (hHeld.trans (hbw.mono hHeld.size)) (fun hHeld => ?_)
        clear hK K
        try simp only [Act.put, List.setIfInBounds_toArray, List.set_cons_zero, List.set_cons_succ]
        refine wpAnyH_take (i := 10) (oi := { dst := some 4, op := Go.Op.assign (Go.Operand.tmp 39), type := 28, pos := "l04_table.go:135", after := #[{ on := 9, ground := Go.Ground.data }, { on := 9, ground := Go.Ground.chain }, { on := 0, ground := Go.Ground.phase }, { on := 1, ground := Go.Ground.phase }, { on := 2, ground := Go.Ground.phase }, { on := 3, ground := Go.Ground.phase }, { on := 4, ground := Go.Ground.phase }, { on := 5, ground := Go.Ground.phase }, { on := 6, ground := Go.Ground.phase }, { on := 7, ground := Go.Ground.phase }, { on := 8, ground := Go.Ground.phase }, { on := 9, ground := Go.Ground.phase }], guard := none }) (v := ?vp10) rfl (by kernel_rfl) (by kernel_rfl) (by kernel_rfl) (fun _ _ _ h => h) (Or.inl ⟨by rfl, ?hp10⟩) hHeld ?rp10
        case hp10 =>
          intro wS hSw
          (try dsimp only at hSw)
          go_simp
          try with_reducible rfl
        case rp10 =>
        simp only [Act.put, List.setIfInBounds_toArray, List.set_cons_zero, List.set_cons_succ]
        refine wpAnyH_done (by kernel_rfl) ?_ _
        refine NoPanic.normal ?_
        have HB3 := hide hHeld
        have HO := hide (hO.mono (lo' := w.heap.size) (unhide HDZ) (Nat.le_refl _))
        clear hHeld hO
        go_wp2_with fail
        go_ret
        exact ⟨_, rfl, by rw [unhide HE]; exact unhide HO, unhide HB3⟩
      · have hd : decide ((30 : Int) ≤ (xs.length : Int)) = true := by simp; omega
        have hh : hasI xs x.id = true := by
          rcases room_true hro with h | h
          · exact h
          · omega
        have HH := hide hh
        clear hro hh LC
        go_enter Try.func50, Try.ntmps50
        go_wp2_with fail
        refine (unhide LA).mono ?_
        rintro e w ⟨⟨r, rfl, hA⟩, rfl⟩
        rcases hA with ⟨rfl, hno⟩ | ⟨k, hk, rfl, -⟩
        · rw [unhide HH] at hno; cases hno
        · have hd2 : decide ((k : Int) < 0) = false := by simp
          go_wp2_with fail
          refine wp_region_noPanic ?_
          refine wp_region_held_drew (S := fun w' => Below w.heap.size w w') (by kernel_rfl) (unhide HB).drew (fun hHeld => ?_)
          generalize w.drew = wD at hHeld HDZ ⊢
          refine wpAnyH_take (i := 0) (oi := { dst := some 30, op := Go.Op.move (Go.Operand.tmp 0), type := 28, pos := "l04_table.go:135", after := #[], guard := none }) (v := ?vq0) rfl (by kernel_rfl) (by kernel_rfl) (by kernel_rfl) (fun _ _ _ h => h) (Or.inl ⟨by rfl, ?hq0⟩) hHeld ?rq0
          case hq0 =>
            intro wS hSw
            (try dsimp only at hSw)
            go_simp
            try with_reducible rfl
          case rq0 =>
          simp only [Act.put, List.setIfInBounds_toArray, List.set_cons_zero, List.set_cons_succ]
          refine wpAnyH_take (i := 1) (oi := { dst := some 31, op := Go.Op.move (Go.Operand.tmp 1), type := 84, pos := "l04_table.go:135", after := #[], guard := none }) (v := ?vq1) rfl (by kernel_rfl) (by kernel_rfl) (by kernel_rfl) (fun _ _ _ h => h) (Or.inl ⟨by rfl, ?hq1⟩) hHeld ?rq1
          case hq1 =>
            intro wS hSw
            (try dsimp only at hSw)
            go_simp
            try with_reducible rfl
          case rq1 =>
          simp only [Act.put, List.setIfInBounds_toArray, List.set_cons_zero, List.set_cons_succ]
          refine wpAnyH_take (i := 2) (oi := { dst := some 32, op := Go.Op.nilCheck (Go.Operand.tmp 31), type := 0, pos := "l04_table.go:135", after := #[{ on := 1, ground := Go.Ground.data }], guard := none }) (v := ?vq2) rfl (by kernel_rfl) (by kernel_rfl) (by kernel_rfl) (fun _ _ _ h => h) (Or.inl ⟨by rfl, ?hq2⟩) hHeld ?rq2
          case hq2 =>
            intro wS hSw
            (try dsimp only at hSw)
            go_simp
            try with_reducible rfl
          case rq2 =>
          simp only [Act.put, List.setIfInBounds_toArray, List.set_cons_zero, List.set_cons_succ]
          refine wpAnyH_take (i := 3) (oi := { dst := some 33, op := Go.Op.fieldAddr 33 (Go.Operand.tmp 32) 1, type := 0, pos := "l04_table.go:135", after := #[{ on := 2, ground := Go.Ground.data }], guard := none }) (v := ?vq3) rfl (by kernel_rfl) (by kernel_rfl) (by kernel_rfl) (fun _ _ _ h => h) (Or.inl ⟨by rfl, ?hq3⟩) hHeld ?rq3
          case hq3 =>
            intro wS hSw
            (try dsimp only at hSw)
            go_simp
            try with_reducible rfl
          case rq3 =>
          simp only [Act.put, List.setIfInBounds_toArray, List.set_cons_zero, List.set_cons_succ]
          refine wpAnyH_take (i := 4) (oi := { dst := some 34, op := Go.Op.load 2 (Go.Operand.tmp 33), type := 2, pos := "l04_table.go:135", after := #[{ on := 3, ground := Go.Ground.data }], guard := none }) (v := ?vq4) rfl (by kernel_rfl) (by kernel_rfl) (by kernel_rfl) (fun _ _ _ h => h) (Or.inl ⟨by rfl, ?hq4⟩) hHeld ?rq4
          case hq4 =>
            intro wS hSw
            have y1 := (hSw.cell (p := ⟨b, o + 1, none⟩) hbl).trans c1
            have y2 := (hSw.cell (p := ⟨b, o + 2, none⟩) hbl).trans c2
            clear hSw
            (try dsimp only at hSw)
            go_simp
            try with_reducible rfl
          case rq4 =>
          simp only [Act.put, List.setIfInBounds_toArray, List.set_cons_zero, List.set_cons_succ]
          refine wpAnyH_take (i := 5) (oi := { dst := some 35, op := Go.Op.move (Go.Operand.tmp 1), type := 84, pos := "l04_table.go:135", after := #[], guard := none }) (v := ?vq5) rfl (by kernel_rfl) (by kernel_rfl) (by kernel_rfl) (fun _ _ _ h => h) (Or.inl ⟨by rfl, ?hq5⟩) hHeld ?rq5
          case hq5 =>
            intro wS hSw
            (try dsimp only at hSw)
            go_simp
            try with_reducible rfl
          case rq5 =>
          simp only [Act.put, List.setIfInBounds_toArray, List.set_cons_zero, List.set_cons_succ]
          refine wpAnyH_take (i := 6) (oi := { dst := some 36, op := Go.Op.nilCheck (Go.Operand.tmp 35), type := 0, pos := "l04_table.go:135", after := #[{ on := 5, ground := Go.Ground.data }], guard := none }) (v := ?vq6) rfl (by kernel_rfl) (by kernel_rfl) (by kernel_rfl) (fun _ _ _ h => h) (Or.inl ⟨by rfl, ?hq6⟩) hHeld ?rq6
          case hq6 =>
            intro wS hSw
            (try dsimp only at hSw)
            go_simp
            try with_reducible rfl
          case rq6 =>
          simp only [Act.put, List.setIfInBounds_toArray, List.set_cons_zero, List.set_cons_succ]
          refine wpAnyH_take (i := 7) (oi := { dst := some 37, op := Go.Op.fieldAddr 33 (Go.Operand.tmp 36) 2, type := 0, pos := "l04_table.go:135", after := #[{ on := 6, ground := Go.Ground.data }], guard := none }) (v := ?vq7) rfl (by kernel_rfl) (by kernel_rfl) (by kernel_rfl) (fun _ _ _ h => h) (Or.inl ⟨by rfl, ?hq7⟩) hHeld ?rq7
          case hq7 =>
            intro wS hSw
            (try dsimp only at hSw)
            go_simp
            try with_reducible rfl
          case rq7 =>
          simp only [Act.put, List.setIfInBounds_toArray, List.set_cons_zero, List.set_cons_succ]
          refine wpAnyH_take (i := 8) (oi := { dst := some 38, op := Go.Op.load 23 (Go.Operand.tmp 37), type := 23, pos := "l04_table.go:135", after := #[{ on := 7, ground := Go.Ground.data }], guard := none }) (v := ?vq8) rfl (by kernel_rfl) (by kernel_rfl) (by kernel_rfl) (fun _ _ _ h => h) (Or.inl ⟨by rfl, ?hq8⟩) hHeld ?rq8
          case hq8 =>
            intro wS hSw
            have y1 := (hSw.cell (p := ⟨b, o + 1, none⟩) hbl).trans c1
            have y2 := (hSw.cell (p := ⟨b, o + 2, none⟩) hbl).trans c2
            clear hSw
            (try dsimp only at hSw)
            go_simp
            try with_reducible rfl
          case rq8 =>
          simp only [Act.put, List.setIfInBounds_toArray, List.set_cons_zero, List.set_cons_succ]
          refine wpAnyH_ready (rs := [9]) (by kernel_rfl) (by simp) ?_
          refine AllReadyH.cons (o := { dst := some 39, op := Go.Op.call { callee := Go.Callee.value (Go.Operand.func 73), args := #[Go.Operand.tmp 30, Go.Operand.tmp 34, Go.Operand.tmp 38, Go.Operand.const (Go.Value.bool true)], argTypes := #[28, 2, 23, 4] }, type := 28, pos := "l04_table.go:135", after := #[{ on := 0, ground := Go.Ground.data }, { on := 4, ground := Go.Ground.data }, { on := 8, ground := Go.Ground.data }], guard := none }) rfl (fun K hK => ?_) AllReadyH.nil
          go_simp
          go_at_call 73
          refine (unhide LP _ hHeld).mono ?_
          rintro e w3 ⟨v3, rfl, hO, hbw⟩
          try go_wp2_with fail
          refine hK.out _ _ (hHeld.trans (hbw.mono hHeld.size)) (fun hHeld => ?_)
          clear hK K
          try simp only [Act.put, List.setIfInBounds_toArray, List.set_cons_zero, List.set_cons_succ]
          refine wpAnyH_take (i := 10) (oi := { dst := some 4, op := Go.Op.assign (Go.Operand.tmp 39), type := 28, pos := "l04_table.go:135", after := #[{ on := 9, ground := Go.Ground.data }, { on := 9, ground := Go.Ground.chain }, { on := 0, ground := Go.Ground.phase }, { on := 1, ground := Go.Ground.phase }, { on := 2, ground := Go.Ground.phase }, { on := 3, ground := Go.Ground.phase }, { on := 4, ground := Go.Ground.phase }, { on := 5, ground := Go.Ground.phase }, { on := 6, ground := Go.Ground.phase }, { on := 7, ground := Go.Ground.phase }, { on := 8, ground := Go.Ground.phase }, { on := 9, ground := Go.Ground.phase }], guard := none }) (v := ?vq10) rfl (by kernel_rfl) (by kernel_rfl) (by kernel_rfl) (fun _ _ _ h => h) (Or.inl ⟨by rfl, ?hq10⟩) hHeld ?rq10
          case hq10 =>
            intro wS hSw
            (try dsimp only at hSw)
            go_simp
            try with_reducible rfl
          case rq10 =>
          simp only [Act.put, List.setIfInBounds_toArray, List.set_cons_zero, List.set_cons_succ]
          refine wpAnyH_done (by kernel_rfl) ?_ _
          refine NoPanic.normal ?_
          have HB3 := hide hHeld
          have HO := hide (hO.mono (lo' := w.heap.size) (unhide HDZ) (Nat.le_refl _))
          clear hHeld hO
          go_wp2_with fail
          go_ret
          exact ⟨_, rfl, by rw [unhide HE]; exact unhide HO, unhide HB3⟩
    | false =>
      have HE : Hid (applyI xs x = xs) := by
        show applyI xs x = _
        rw [applyI, if_neg (by rw [unhide HK]; decide), hro, if_neg (by simp)]
      obtain ⟨r1, r2⟩ := room_false hro
      have hd : decide ((30 : Int) ≤ (xs.length : Int)) = true := by simp; omega
      have HH := hide r1
      clear hro r1 r2 LP
      go_enter Try.func50, Try.ntmps50
      go_wp2_with fail
      refine (unhide LA).mono ?_
      rintro e w ⟨⟨r, rfl, hA⟩, rfl⟩
      rcases hA with ⟨rfl, hno⟩ | ⟨k, hk, rfl, hfd⟩
      · clear hno
        go_wp2_with fail
        refine (unhide LC).mono ?_
        rintro e w3 ⟨v3, rfl, hO, hb⟩
        have HB3 := hide hb
        have HO := hide hO
        clear hb hO
        go_wp2_with fail
        go_ret
        exact ⟨_, rfl, by rw [unhide HE]; exact unhide HO, unhide HB3⟩
      · obtain ⟨hx, hxi⟩ := find_at hfd
        exact absurd hxi (hasI_false (unhide HH) _ hx)
  · have L := specSet _ xs x.id [] (.slice none 0 0) false w h (own_noInts (lo := 0) (hi := 0)).reads hw s1 s2 (by simp)
    rw [setM_drop] at L
    have HL := hide L
    have HE : Hid (applyI xs x = dropI xs x.id) := by
      show applyI xs x = _
      rw [applyI, if_pos hk2]
    rw [hk2] at c0
    clear h hv hw hi s1 s2 hris hR hx hk2 L
    go_enter Try.func50, Try.ntmps50
    go_wp2_with fail
    refine (unhide HL).mono ?_
    rintro e w3 ⟨v3, rfl, hO, hb⟩
    have HB3 := hide hb
    have HO := hide hO
    clear hb hO HL
    go_wp2_with fail
    go_ret
    exact ⟨_, rfl, by rw [unhide HE]; exact unhide HO, unhide HB3⟩

end Go.Proofs.Yteekfapjfpkidab
