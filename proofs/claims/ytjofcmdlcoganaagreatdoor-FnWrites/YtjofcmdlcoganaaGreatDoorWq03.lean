/-
  Texts of this proof in one: SpecReadDrop, SpecReadPut0, SpecReadPut1, SpecReadPut2, SpecReadPut3, SpecReadPut4, SpecRead, LayWriteResult, WResPlain.
  Their conditions stand in their theorems.
-/
import Derived.Test.YtjofcmdlcoganaaGreatDoorWq02
import Derived.Test.YtjofcmdlcoganaaGreatDoorWq01

namespace Go.Proofs.YtjofcmdlcoganaaGreatDoor
open Go.RowKit

set_option maxRecDepth 100000 in
set_option maxHeartbeats 4000000 in
theorem l3Read_drop0 (g cap : Nat) (a b c : ByteArray) (w : World) (h0 : w.cell? ⟨g, 0, none⟩ = some (.string ⟨#[100, 114, 111, 112]⟩)) (h1 : w.cell? ⟨g, 1, none⟩ = some (.string a)) (h2 : w.cell? ⟨g, 2, none⟩ = some (.string ⟨#[98, 121]⟩)) (h3 : w.cell? ⟨g, 3, none⟩ = some (.string b)) (h4 : w.cell? ⟨g, 4, none⟩ = some (.string c))
    (za : a.size ≤ 1048576) (zb : b.size ≤ 1048576) (zc : c.size ≤ 1048576) (ka : (numR a.data.toList).2 = false) :
    Calls Tryz.prog 28 #[.slice (some ⟨g, 0, none⟩) 5 cap] w fun e w' => ToldR w w' e (tailW 2 [] a.data.toList b.data.toList c.data.toList) false := by
  have bda := numR_bd a.data.toList
  have bdb := numR_bd b.data.toList
  have bdc := numR_bd c.data.toList
  have NA := hide (fun W => number a W za)
  have NB := hide (fun W => number b W zb)
  have NC := hide (fun W => number c W zc)
  unfold tailW
  generalize (numR a.data.toList).1 = na at *
  generalize (numR b.data.toList).1 = ns at *
  generalize (numR c.data.toList).1 = nq at *
  generalize (numR a.data.toList).2 = oa at *
  generalize (numR b.data.toList).2 = ob at *
  generalize (numR c.data.toList).2 = oc at *
  subst ka
  have nb0 : Below w.heap.size w (w.alloc (.cells #[.int .i64 0, .int .i64 0, .slice none 0 0, .int .i64 0, .int .i64 0] 27)) := (Below.refl _ _).alloc (Nat.le_refl _) _
  have nb1 : Below (w.alloc (.cells #[.int .i64 0, .int .i64 0, .slice none 0 0, .int .i64 0, .int .i64 0] 27)).heap.size (w.alloc (.cells #[.int .i64 0, .int .i64 0, .slice none 0 0, .int .i64 0, .int .i64 0] 27)) ((w.alloc (.cells #[.int .i64 0, .int .i64 0, .slice none 0 0, .int .i64 0, .int .i64 0] 27)).alloc (.cells #[.int .i64 2, .int .i64 0, .slice none 0 0, .int .i64 0, .int .i64 0] 27)) := (Below.refl _ _).alloc (Nat.le_refl _) _
  have bR : Box 0 #[.int .i64 0, .int .i64 0, .slice none 0 0, .int .i64 0, .int .i64 0] 27 ((w.alloc (.cells #[.int .i64 0, .int .i64 0, .slice none 0 0, .int .i64 0, .int .i64 0] 27)).alloc (.cells #[.int .i64 2, .int .i64 0, .slice none 0 0, .int .i64 0, .int .i64 0] 27)) w.heap.size := (newBox (Nat.zero_le _)).keep nb1
  have nb := nb0.trans (nb1.mono nb0.size)
  clear nb0 nb1
  have bX : Box 0 #[.int .i64 2, .int .i64 0, .slice none 0 0, .int .i64 0, .int .i64 0] 27 ((w.alloc (.cells #[.int .i64 0, .int .i64 0, .slice none 0 0, .int .i64 0, .int .i64 0] 27)).alloc (.cells #[.int .i64 2, .int .i64 0, .slice none 0 0, .int .i64 0, .int .i64 0] 27)) (w.heap.size + 1) := by
    have := newBox (W := w.alloc (.cells #[.int .i64 0, .int .i64 0, .slice none 0 0, .int .i64 0, .int .i64 0] 27)) (cs := #[.int .i64 2, .int .i64 0, .slice none 0 0, .int .i64 0, .int .i64 0]) (T := 27) (lo := 0) (Nat.zero_le _)
    simpa using this
  have d0 := cell_keep nb h0
  have d1 := cell_keep nb h1
  have d2 := cell_keep nb h2
  have d3 := cell_keep nb h3
  have d4 := cell_keep nb h4
  clear h0 h1 h2 h3 h4
  have HB := hide nb
  have HX := hide bX
  have HR := hide bR
  clear nb bX bR
  go_enter Tryz.func28, Tryz.ntmps28
  go_wp2_with fail
  have bX := unhide HX
  have bR := unhide HR
  clear HX HR d0 d2
  generalize (w.alloc (.cells #[.int .i64 0, .int .i64 0, .slice none 0 0, .int .i64 0, .int .i64 0] 27)).alloc (.cells #[.int .i64 2, .int .i64 0, .slice none 0 0, .int .i64 0, .int .i64 0] 27) = W1 at *
  have hsx : w.heap.size < w.heap.size + 1 := by omega
  generalize w.heap.size + 1 = sx at *
  have HVI : Hid ((Lay.sl Lay.int).LiesIn W1 [.slice none 0 0] [] (sx + 1) W1.heap.size) := ⟨[], Lay.lies_ints.2 ⟨none, 0, rfl, ⟨by simp, by simp⟩, by simp, Or.inl ⟨rfl, rfl⟩⟩, by simp⟩
  refine (unhide NA _).mono ?_
  rintro e w1 ⟨rfl, hb⟩
  replace bX := bX.keep hb
  replace bR := bR.keep hb
  replace HB := hide ((unhide HB).trans (hb.mono (unhide HB).size))
  replace HVI := hide (((unhide HVI).later hb).mono (Nat.le_refl _) (hi' := w1.heap.size) hb.size)
  replace d3 := cell_keep hb d3
  replace d4 := cell_keep hb d4
  clear hb d1
  have HX := hide bX
  have HR := hide bR
  clear bX bR
  go_wp2_with fail
  have bX := unhide HX
  have bR := unhide HR
  clear HX HR
  refine (unhide NB _).mono ?_
  rintro e w2 ⟨rfl, hb⟩
  replace bX := bX.keep hb
  replace bR := bR.keep hb
  replace HB := hide ((unhide HB).trans (hb.mono (unhide HB).size))
  replace HVI := hide (((unhide HVI).later hb).mono (Nat.le_refl _) (hi' := w2.heap.size) hb.size)
  replace d4 := cell_keep hb d4
  clear hb d3
  have HX := hide bX
  have HR := hide bR
  clear bX bR
  go_wp2_with fail
  have bX := unhide HX
  have bR := unhide HR
  clear HX HR
  refine (unhide NC _).mono ?_
  rintro e w3 ⟨rfl, hb⟩
  replace bX := bX.keep hb
  replace bR := bR.keep hb
  replace HB := hide ((unhide HB).trans (hb.mono (unhide HB).size))
  replace HVI := hide (((unhide HVI).later hb).mono (Nat.le_refl _) (hi' := w3.heap.size) hb.size)
  clear hb d4
  have x0 := bX.at 0 _ rfl
  have x1 := bX.at 1 _ rfl
  have x2 := bX.at 2 _ rfl
  have x3 := bX.at 3 _ rfl
  have x4 := bX.at 4 _ rfl
  have xf := bX.soft
  have xl := bX.lt
  have HX := hide bX
  have HR := hide bR
  clear bX bR
  simp only [List.getElem_toArray, List.getElem_cons_zero, List.getElem_cons_succ] at x0 x1 x2 x3 x4
  go_wp2_with fail
  obtain ⟨bX, bR, hB1, hV2⟩ := storeX (.int .i64 na) (.int .i64 ns) (.int .i64 nq) hsx (unhide HX) (unhide HR) (unhide HB) (unhide HVI)
  have HB1 := hide hB1
  have HV2 := hide hV2
  clear hB1 hV2
  clear HX HR HB HVI x0 x1 x2 x3 x4 xf xl
  generalize ((w3.setCell ⟨sx, 1, none⟩ (.int .i64 na)).setCell ⟨sx, 3, none⟩ (.int .i64 ns)).setCell ⟨sx, 4, none⟩ (.int .i64 nq) = W2 at *
  refine wp_region_noPanic ?_
  refine wp_region_held_drew (S := fun w' => Below w.heap.size w w' ∧ Box 0 #[.int .i64 2, .int .i64 na, .slice none 0 0, .int .i64 ns, .int .i64 nq] 27 w' sx ∧ (∃ cs : Array Value, cs.size = 5 ∧ Box 0 cs 27 w' w.heap.size) ∧ (Lay.sl Lay.int).LiesIn w' [.slice none 0 0] [] (sx + 1) W2.heap.size ∧ W2.heap.size ≤ w'.heap.size) (by kernel_rfl) ⟨(unhide HB1).drew, bX.drew, ⟨_, rfl, bR.drew⟩, unhide HV2, Nat.le_refl _⟩ (fun hHeld => ?_)
  generalize W2.drew = wD at hHeld ⊢
  refine wpAnyH_take (i := 0) (oi := { dst := some 83, op := Go.Op.load 27 (Go.Operand.tmp 4), type := 27, pos := "l03_write.go:96", after := #[], guard := none }) (v := ?v0) rfl (by kernel_rfl) (by kernel_rfl) (by kernel_rfl) (fun _ _ _ h => h) (Or.inl ⟨by rfl, ?h0⟩) hHeld ?r0
  case h0 =>
    intro wS hSw
    have y0 := hSw.2.1.at 0 _ rfl
    have y1 := hSw.2.1.at 1 _ rfl
    have y2 := hSw.2.1.at 2 _ rfl
    have y3 := hSw.2.1.at 3 _ rfl
    have y4 := hSw.2.1.at 4 _ rfl
    simp only [List.getElem_toArray, List.getElem_cons_zero, List.getElem_cons_succ] at y0 y1 y2 y3 y4
    clear hSw
    (try dsimp only at hSw)
    go_simp
    try with_reducible rfl
  case r0 =>
  simp only [Act.put, List.setIfInBounds_toArray, List.set_cons_zero, List.set_cons_succ]
  refine wpAnyH_take (i := 1) (oi := { dst := some 84, op := Go.Op.move (Go.Operand.tmp 8), type := 4, pos := "l03_write.go:96", after := #[], guard := none }) (v := ?v1) rfl (by kernel_rfl) (by kernel_rfl) (by kernel_rfl) (fun _ _ _ h => h) (Or.inl ⟨by rfl, ?h1⟩) hHeld ?r1
  case h1 =>
    intro wS hSw
    (try dsimp only at hSw)
    go_simp
    try with_reducible rfl
  case r1 =>
  simp only [Act.put, List.setIfInBounds_toArray, List.set_cons_zero, List.set_cons_succ]
  refine wpAnyH_take (i := 2) (oi := { dst := some 85, op := Go.Op.move (Go.Operand.tmp 84), type := 4, pos := "l03_write.go:96", after := #[{ on := 1, ground := Go.Ground.data }], guard := none }) (v := ?v2) rfl (by kernel_rfl) (by kernel_rfl) (by kernel_rfl) (fun _ _ _ h => h) (Or.inl ⟨by rfl, ?h2⟩) hHeld ?r2
  case h2 =>
    intro wS hSw
    (try dsimp only at hSw)
    go_simp
    try with_reducible rfl
  case r2 =>
  simp only [Act.put, List.setIfInBounds_toArray, List.set_cons_zero, List.set_cons_succ]
  refine wpAnyH_take (i := 3) (oi := { dst := some 86, op := Go.Op.move (Go.Operand.tmp 10), type := 4, pos := "l03_write.go:96", after := #[{ on := 2, ground := Go.Ground.guard }], guard := some (2, true) }) (v := undef) rfl (by kernel_rfl) (by kernel_rfl) (by kernel_rfl) (fun _ _ _ h => h) (Or.inr ⟨by rfl, rfl⟩) hHeld ?_
  simp only [Act.put, List.setIfInBounds_toArray, List.set_cons_zero, List.set_cons_succ]
  refine wpAnyH_take (i := 4) (oi := { dst := some 87, op := Go.Op.pick (Go.Operand.tmp 85) (Go.Operand.tmp 86) (Go.Operand.const (Go.Value.bool false)), type := 4, pos := "l03_write.go:96", after := #[{ on := 2, ground := Go.Ground.data }, { on := 3, ground := Go.Ground.data }], guard := none }) (v := ?v4) rfl (by kernel_rfl) (by kernel_rfl) (by kernel_rfl) (fun _ _ _ h => h) (Or.inl ⟨by rfl, ?h4⟩) hHeld ?r4
  case h4 =>
    intro wS hSw
    (try dsimp only at hSw)
    go_simp
    try with_reducible rfl
  case r4 =>
  simp only [Act.put, List.setIfInBounds_toArray, List.set_cons_zero, List.set_cons_succ]
  refine wpAnyH_take (i := 5) (oi := { dst := some 88, op := Go.Op.move (Go.Operand.tmp 87), type := 4, pos := "l03_write.go:96", after := #[{ on := 4, ground := Go.Ground.data }, { on := 2, ground := Go.Ground.chain }], guard := none }) (v := ?v5) rfl (by kernel_rfl) (by kernel_rfl) (by kernel_rfl) (fun _ _ _ h => h) (Or.inl ⟨by rfl, ?h5⟩) hHeld ?r5
  case h5 =>
    intro wS hSw
    (try dsimp only at hSw)
    go_simp
    try with_reducible rfl
  case r5 =>
  simp only [Act.put, List.setIfInBounds_toArray, List.set_cons_zero, List.set_cons_succ]
  refine wpAnyH_take (i := 6) (oi := { dst := some 89, op := Go.Op.move (Go.Operand.tmp 12), type := 4, pos := "l03_write.go:96", after := #[{ on := 5, ground := Go.Ground.guard }], guard := some (5, true) }) (v := undef) rfl (by kernel_rfl) (by kernel_rfl) (by kernel_rfl) (fun _ _ _ h => h) (Or.inr ⟨by rfl, rfl⟩) hHeld ?_
  simp only [Act.put, List.setIfInBounds_toArray, List.set_cons_zero, List.set_cons_succ]
  refine wpAnyH_take (i := 7) (oi := { dst := some 90, op := Go.Op.pick (Go.Operand.tmp 88) (Go.Operand.tmp 89) (Go.Operand.const (Go.Value.bool false)), type := 4, pos := "l03_write.go:96", after := #[{ on := 5, ground := Go.Ground.data }, { on := 6, ground := Go.Ground.data }], guard := none }) (v := ?v7) rfl (by kernel_rfl) (by kernel_rfl) (by kernel_rfl) (fun _ _ _ h => h) (Or.inl ⟨by rfl, ?h7⟩) hHeld ?r7
  case h7 =>
    intro wS hSw
    (try dsimp only at hSw)
    go_simp
    try with_reducible rfl
  case r7 =>
  simp only [Act.put, List.setIfInBounds_toArray, List.set_cons_zero, List.set_cons_succ]
  refine wpAnyH_take (i := 8) (oi := { dst := some 91, op := Go.Op.move (Go.Operand.tmp 90), type := 4, pos := "l03_write.go:96", after := #[{ on := 7, ground := Go.Ground.data }, { on := 5, ground := Go.Ground.chain }], guard := none }) (v := ?v8) rfl (by kernel_rfl) (by kernel_rfl) (by kernel_rfl) (fun _ _ _ h => h) (Or.inl ⟨by rfl, ?h8⟩) hHeld ?r8
  case h8 =>
    intro wS hSw
    (try dsimp only at hSw)
    go_simp
    try with_reducible rfl
  case r8 =>
  simp only [Act.put, List.setIfInBounds_toArray, List.set_cons_zero, List.set_cons_succ]
  refine wpAnyH_take (i := 9) (oi := { dst := some 92, op := Go.Op.call { callee := Go.Callee.value (Go.Operand.func 37), args := #[Go.Operand.tmp 4], argTypes := #[48] }, type := 2, pos := "l03_write.go:96", after := #[{ on := 8, ground := Go.Ground.chain }, { on := 8, ground := Go.Ground.guard }], guard := some (8, true) }) (v := undef) rfl (by kernel_rfl) (by kernel_rfl) (by kernel_rfl) (fun _ _ _ h => h) (Or.inr ⟨by rfl, rfl⟩) hHeld ?_
  simp only [Act.put, List.setIfInBounds_toArray, List.set_cons_zero, List.set_cons_succ]
  refine wpAnyH_take (i := 10) (oi := { dst := some 93, op := Go.Op.binOp Go.BinOp.eql 2 (Go.Operand.tmp 92) (Go.Operand.const (Go.Value.int Go.IntKind.i64 0)) 2, type := 4, pos := "l03_write.go:96", after := #[{ on := 9, ground := Go.Ground.data }, { on := 8, ground := Go.Ground.guard }, { on := 12, ground := Go.Ground.gcOnly Go.Departure.lateStores }], guard := some (8, true) }) (v := undef) rfl (by kernel_rfl) (by kernel_rfl) (by kernel_rfl) (fun _ _ _ h => h) (Or.inr ⟨by rfl, rfl⟩) hHeld ?_
  simp only [Act.put, List.setIfInBounds_toArray, List.set_cons_zero, List.set_cons_succ]
  refine wpAnyH_take (i := 11) (oi := { dst := some 94, op := Go.Op.pick (Go.Operand.tmp 91) (Go.Operand.tmp 93) (Go.Operand.const (Go.Value.bool false)), type := 4, pos := "l03_write.go:96", after := #[{ on := 8, ground := Go.Ground.data }, { on := 10, ground := Go.Ground.data }, { on := 12, ground := Go.Ground.gcOnly Go.Departure.lateStores }], guard := none }) (v := ?v11) rfl (by kernel_rfl) (by kernel_rfl) (by kernel_rfl) (fun _ _ _ h => h) (Or.inl ⟨by rfl, ?h11⟩) hHeld ?r11
  case h11 =>
    intro wS hSw
    (try dsimp only at hSw)
    go_simp
    try with_reducible rfl
  case r11 =>
  simp only [Act.put, List.setIfInBounds_toArray, List.set_cons_zero, List.set_cons_succ]
  refine wpAnyH_ready (rs := [12]) (by kernel_rfl) (by simp) ?_
  refine AllReadyH.cons (o := { dst := none, op := Go.Op.store 27 (Go.Operand.tmp 2) (Go.Operand.tmp 83), type := 0, pos := "l03_write.go:96", after := #[{ on := 0, ground := Go.Ground.data }, { on := 9, ground := Go.Ground.chain }, { on := 0, ground := Go.Ground.phase }, { on := 1, ground := Go.Ground.textOnly Go.Departure.lateStores }, { on := 2, ground := Go.Ground.textOnly Go.Departure.lateStores }, { on := 3, ground := Go.Ground.textOnly Go.Departure.lateStores }, { on := 4, ground := Go.Ground.textOnly Go.Departure.lateStores }, { on := 5, ground := Go.Ground.textOnly Go.Departure.lateStores }, { on := 6, ground := Go.Ground.textOnly Go.Departure.lateStores }, { on := 7, ground := Go.Ground.textOnly Go.Departure.lateStores }, { on := 8, ground := Go.Ground.textOnly Go.Departure.lateStores }, { on := 9, ground := Go.Ground.textOnly Go.Departure.lateStoresUnsure }, { on := 10, ground := Go.Ground.textOnly Go.Departure.lateStores }, { on := 11, ground := Go.Ground.textOnly Go.Departure.lateStores }], guard := none }) rfl (fun K hK => ?_) AllReadyH.nil
  obtain ⟨hb9, bX9, ⟨cs9, hs9, bR9⟩, hv9, hz9⟩ := hHeld
  obtain ⟨q0, q1, q2, q3, q4, rfl⟩ : ∃ q0 q1 q2 q3 q4 : Value, cs9 = #[q0, q1, q2, q3, q4] := by
    obtain ⟨l⟩ := cs9
    match l, hs9 with
    | [q0, q1, q2, q3, q4], _ => exact ⟨q0, q1, q2, q3, q4, rfl⟩
  have e0 : wD.cell? ⟨w.heap.size, 0, none⟩ = some q0 := bR9.at 0 _ rfl
  have e1 : wD.cell? ⟨w.heap.size, 1, none⟩ = some q1 := bR9.at 1 _ rfl
  have e2 : wD.cell? ⟨w.heap.size, 2, none⟩ = some q2 := bR9.at 2 _ rfl
  have e3 : wD.cell? ⟨w.heap.size, 3, none⟩ = some q3 := bR9.at 3 _ rfl
  have e4 : wD.cell? ⟨w.heap.size, 4, none⟩ = some q4 := bR9.at 4 _ rfl
  have ef : ∀ o, wD.frozen? ⟨w.heap.size, o, none⟩ = false := bR9.soft
  have el : w.heap.size < wD.heap.size := bR9.lt
  go_simp
  try go_wp2_with fail
  refine hK.out _ _ (storeR (vs := [.int .i64 2, .int .i64 na, .slice none 0 0, .int .i64 ns, .int .i64 nq]) hb9 bX9 bR9 hv9 hz9 (by omega) rfl) (fun hHeld => ?_)
  clear hK K
  try simp only [Act.put, List.setIfInBounds_toArray, List.set_cons_zero, List.set_cons_succ]
  refine wpAnyH_take (i := 13) (oi := { dst := some 3, op := Go.Op.assign (Go.Operand.tmp 94), type := 4, pos := "l03_write.go:96", after := #[{ on := 11, ground := Go.Ground.data }, { on := 12, ground := Go.Ground.chain }, { on := 0, ground := Go.Ground.phase }, { on := 1, ground := Go.Ground.phase }, { on := 2, ground := Go.Ground.phase }, { on := 3, ground := Go.Ground.phase }, { on := 4, ground := Go.Ground.phase }, { on := 5, ground := Go.Ground.phase }, { on := 6, ground := Go.Ground.phase }, { on := 7, ground := Go.Ground.phase }, { on := 8, ground := Go.Ground.phase }, { on := 9, ground := Go.Ground.phase }, { on := 10, ground := Go.Ground.phase }, { on := 11, ground := Go.Ground.phase }, { on := 12, ground := Go.Ground.phase }], guard := none }) (v := ?v13) rfl (by kernel_rfl) (by kernel_rfl) (by kernel_rfl) (fun _ _ _ h => h) (Or.inl ⟨by rfl, ?h13⟩) hHeld ?r13
  case h13 =>
    intro wS hSw
    (try dsimp only at hSw)
    go_simp
    try with_reducible rfl
  case r13 =>
  simp only [Act.put, List.setIfInBounds_toArray, List.set_cons_zero, List.set_cons_succ]
  refine wpAnyH_done (by kernel_rfl) ?_ _
  refine NoPanic.normal ?_
  have HS := hide hHeld
  clear hHeld
  go_wp2_with fail
  refine bodyPost_ret (v := .tuple #[.agg #[.int .i64 2, .int .i64 na, .slice none 0 0, .int .i64 ns, .int .i64 nq], .bool false]) (by simp [results, Tryz.results28, go_sem, e0, e1, e2, e3, e4]) rfl ?_
  obtain ⟨s1, -, -, s4, s5⟩ := unhide HS
  refine ⟨[.int .i64 2, .int .i64 na, .slice none 0 0, .int .i64 ns, .int .i64 nq], rfl, ?_, s1⟩
  have fa : (Lit.int .i64 na).wf = true := wf_of_bd (by omega)
  have fb : (Lit.int .i64 ns).wf = true := wf_of_bd (by omega)
  have fc : (Lit.int .i64 nq).wf = true := wf_of_bd (by omega)
  exact readsR (x := ⟨2, na, [], ns, nq⟩) (s4.mono (by omega) s5) (by rfl) fa fb fc

set_option maxRecDepth 100000 in
set_option maxHeartbeats 4000000 in
theorem l3Read_drop1 (g cap : Nat) (a b c : ByteArray) (w : World) (h0 : w.cell? ⟨g, 0, none⟩ = some (.string ⟨#[100, 114, 111, 112]⟩)) (h1 : w.cell? ⟨g, 1, none⟩ = some (.string a)) (h2 : w.cell? ⟨g, 2, none⟩ = some (.string ⟨#[98, 121]⟩)) (h3 : w.cell? ⟨g, 3, none⟩ = some (.string b)) (h4 : w.cell? ⟨g, 4, none⟩ = some (.string c))
    (za : a.size ≤ 1048576) (zb : b.size ≤ 1048576) (zc : c.size ≤ 1048576) (ka : (numR a.data.toList).2 = true) (kb : (numR b.data.toList).2 = false) :
    Calls Tryz.prog 28 #[.slice (some ⟨g, 0, none⟩) 5 cap] w fun e w' => ToldR w w' e (tailW 2 [] a.data.toList b.data.toList c.data.toList) false := by
  have bda := numR_bd a.data.toList
  have bdb := numR_bd b.data.toList
  have bdc := numR_bd c.data.toList
  have NA := hide (fun W => number a W za)
  have NB := hide (fun W => number b W zb)
  have NC := hide (fun W => number c W zc)
  unfold tailW
  generalize (numR a.data.toList).1 = na at *
  generalize (numR b.data.toList).1 = ns at *
  generalize (numR c.data.toList).1 = nq at *
  generalize (numR a.data.toList).2 = oa at *
  generalize (numR b.data.toList).2 = ob at *
  generalize (numR c.data.toList).2 = oc at *
  subst ka kb
  have nb0 : Below w.heap.size w (w.alloc (.cells #[.int .i64 0, .int .i64 0, .slice none 0 0, .int .i64 0, .int .i64 0] 27)) := (Below.refl _ _).alloc (Nat.le_refl _) _
  have nb1 : Below (w.alloc (.cells #[.int .i64 0, .int .i64 0, .slice none 0 0, .int .i64 0, .int .i64 0] 27)).heap.size (w.alloc (.cells #[.int .i64 0, .int .i64 0, .slice none 0 0, .int .i64 0, .int .i64 0] 27)) ((w.alloc (.cells #[.int .i64 0, .int .i64 0, .slice none 0 0, .int .i64 0, .int .i64 0] 27)).alloc (.cells #[.int .i64 2, .int .i64 0, .slice none 0 0, .int .i64 0, .int .i64 0] 27)) := (Below.refl _ _).alloc (Nat.le_refl _) _
  have bR : Box 0 #[.int .i64 0, .int .i64 0, .slice none 0 0, .int .i64 0, .int .i64 0] 27 ((w.alloc (.cells #[.int .i64 0, .int .i64 0, .slice none 0 0, .int .i64 0, .int .i64 0] 27)).alloc (.cells #[.int .i64 2, .int .i64 0, .slice none 0 0, .int .i64 0, .int .i64 0] 27)) w.heap.size := (newBox (Nat.zero_le _)).keep nb1
  have nb := nb0.trans (nb1.mono nb0.size)
  clear nb0 nb1
  have bX : Box 0 #[.int .i64 2, .int .i64 0, .slice none 0 0, .int .i64 0, .int .i64 0] 27 ((w.alloc (.cells #[.int .i64 0, .int .i64 0, .slice none 0 0, .int .i64 0, .int .i64 0] 27)).alloc (.cells #[.int .i64 2, .int .i64 0, .slice none 0 0, .int .i64 0, .int .i64 0] 27)) (w.heap.size + 1) := by
    have := newBox (W := w.alloc (.cells #[.int .i64 0, .int .i64 0, .slice none 0 0, .int .i64 0, .int .i64 0] 27)) (cs := #[.int .i64 2, .int .i64 0, .slice none 0 0, .int .i64 0, .int .i64 0]) (T := 27) (lo := 0) (Nat.zero_le _)
    simpa using this
  have d0 := cell_keep nb h0
  have d1 := cell_keep nb h1
  have d2 := cell_keep nb h2
  have d3 := cell_keep nb h3
  have d4 := cell_keep nb h4
  clear h0 h1 h2 h3 h4
  have HB := hide nb
  have HX := hide bX
  have HR := hide bR
  clear nb bX bR
  go_enter Tryz.func28, Tryz.ntmps28
  go_wp2_with fail
  have bX := unhide HX
  have bR := unhide HR
  clear HX HR d0 d2
  generalize (w.alloc (.cells #[.int .i64 0, .int .i64 0, .slice none 0 0, .int .i64 0, .int .i64 0] 27)).alloc (.cells #[.int .i64 2, .int .i64 0, .slice none 0 0, .int .i64 0, .int .i64 0] 27) = W1 at *
  have hsx : w.heap.size < w.heap.size + 1 := by omega
  generalize w.heap.size + 1 = sx at *
  have HVI : Hid ((Lay.sl Lay.int).LiesIn W1 [.slice none 0 0] [] (sx + 1) W1.heap.size) := ⟨[], Lay.lies_ints.2 ⟨none, 0, rfl, ⟨by simp, by simp⟩, by simp, Or.inl ⟨rfl, rfl⟩⟩, by simp⟩
  refine (unhide NA _).mono ?_
  rintro e w1 ⟨rfl, hb⟩
  replace bX := bX.keep hb
  replace bR := bR.keep hb
  replace HB := hide ((unhide HB).trans (hb.mono (unhide HB).size))
  replace HVI := hide (((unhide HVI).later hb).mono (Nat.le_refl _) (hi' := w1.heap.size) hb.size)
  replace d3 := cell_keep hb d3
  replace d4 := cell_keep hb d4
  clear hb d1
  have HX := hide bX
  have HR := hide bR
  clear bX bR
  go_wp2_with fail
  have bX := unhide HX
  have bR := unhide HR
  clear HX HR
  refine (unhide NB _).mono ?_
  rintro e w2 ⟨rfl, hb⟩
  replace bX := bX.keep hb
  replace bR := bR.keep hb
  replace HB := hide ((unhide HB).trans (hb.mono (unhide HB).size))
  replace HVI := hide (((unhide HVI).later hb).mono (Nat.le_refl _) (hi' := w2.heap.size) hb.size)
  replace d4 := cell_keep hb d4
  clear hb d3
  have HX := hide bX
  have HR := hide bR
  clear bX bR
  go_wp2_with fail
  have bX := unhide HX
  have bR := unhide HR
  clear HX HR
  refine (unhide NC _).mono ?_
  rintro e w3 ⟨rfl, hb⟩
  replace bX := bX.keep hb
  replace bR := bR.keep hb
  replace HB := hide ((unhide HB).trans (hb.mono (unhide HB).size))
  replace HVI := hide (((unhide HVI).later hb).mono (Nat.le_refl _) (hi' := w3.heap.size) hb.size)
  clear hb d4
  have x0 := bX.at 0 _ rfl
  have x1 := bX.at 1 _ rfl
  have x2 := bX.at 2 _ rfl
  have x3 := bX.at 3 _ rfl
  have x4 := bX.at 4 _ rfl
  have xf := bX.soft
  have xl := bX.lt
  have HX := hide bX
  have HR := hide bR
  clear bX bR
  simp only [List.getElem_toArray, List.getElem_cons_zero, List.getElem_cons_succ] at x0 x1 x2 x3 x4
  go_wp2_with fail
  obtain ⟨bX, bR, hB1, hV2⟩ := storeX (.int .i64 na) (.int .i64 ns) (.int .i64 nq) hsx (unhide HX) (unhide HR) (unhide HB) (unhide HVI)
  have HB1 := hide hB1
  have HV2 := hide hV2
  clear hB1 hV2
  clear HX HR HB HVI x0 x1 x2 x3 x4 xf xl
  generalize ((w3.setCell ⟨sx, 1, none⟩ (.int .i64 na)).setCell ⟨sx, 3, none⟩ (.int .i64 ns)).setCell ⟨sx, 4, none⟩ (.int .i64 nq) = W2 at *
  refine wp_region_noPanic ?_
  refine wp_region_held_drew (S := fun w' => Below w.heap.size w w' ∧ Box 0 #[.int .i64 2, .int .i64 na, .slice none 0 0, .int .i64 ns, .int .i64 nq] 27 w' sx ∧ (∃ cs : Array Value, cs.size = 5 ∧ Box 0 cs 27 w' w.heap.size) ∧ (Lay.sl Lay.int).LiesIn w' [.slice none 0 0] [] (sx + 1) W2.heap.size ∧ W2.heap.size ≤ w'.heap.size) (by kernel_rfl) ⟨(unhide HB1).drew, bX.drew, ⟨_, rfl, bR.drew⟩, unhide HV2, Nat.le_refl _⟩ (fun hHeld => ?_)
  generalize W2.drew = wD at hHeld ⊢
  refine wpAnyH_take (i := 0) (oi := { dst := some 83, op := Go.Op.load 27 (Go.Operand.tmp 4), type := 27, pos := "l03_write.go:96", after := #[], guard := none }) (v := ?v0) rfl (by kernel_rfl) (by kernel_rfl) (by kernel_rfl) (fun _ _ _ h => h) (Or.inl ⟨by rfl, ?h0⟩) hHeld ?r0
  case h0 =>
    intro wS hSw
    have y0 := hSw.2.1.at 0 _ rfl
    have y1 := hSw.2.1.at 1 _ rfl
    have y2 := hSw.2.1.at 2 _ rfl
    have y3 := hSw.2.1.at 3 _ rfl
    have y4 := hSw.2.1.at 4 _ rfl
    simp only [List.getElem_toArray, List.getElem_cons_zero, List.getElem_cons_succ] at y0 y1 y2 y3 y4
    clear hSw
    (try dsimp only at hSw)
    go_simp
    try with_reducible rfl
  case r0 =>
  simp only [Act.put, List.setIfInBounds_toArray, List.set_cons_zero, List.set_cons_succ]
  refine wpAnyH_take (i := 1) (oi := { dst := some 84, op := Go.Op.move (Go.Operand.tmp 8), type := 4, pos := "l03_write.go:96", after := #[], guard := none }) (v := ?v1) rfl (by kernel_rfl) (by kernel_rfl) (by kernel_rfl) (fun _ _ _ h => h) (Or.inl ⟨by rfl, ?h1⟩) hHeld ?r1
  case h1 =>
    intro wS hSw
    (try dsimp only at hSw)
    go_simp
    try with_reducible rfl
  case r1 =>
  simp only [Act.put, List.setIfInBounds_toArray, List.set_cons_zero, List.set_cons_succ]
  refine wpAnyH_take (i := 2) (oi := { dst := some 85, op := Go.Op.move (Go.Operand.tmp 84), type := 4, pos := "l03_write.go:96", after := #[{ on := 1, ground := Go.Ground.data }], guard := none }) (v := ?v2) rfl (by kernel_rfl) (by kernel_rfl) (by kernel_rfl) (fun _ _ _ h => h) (Or.inl ⟨by rfl, ?h2⟩) hHeld ?r2
  case h2 =>
    intro wS hSw
    (try dsimp only at hSw)
    go_simp
    try with_reducible rfl
  case r2 =>
  simp only [Act.put, List.setIfInBounds_toArray, List.set_cons_zero, List.set_cons_succ]
  refine wpAnyH_take (i := 3) (oi := { dst := some 86, op := Go.Op.move (Go.Operand.tmp 10), type := 4, pos := "l03_write.go:96", after := #[{ on := 2, ground := Go.Ground.guard }], guard := some (2, true) }) (v := ?v3) rfl (by kernel_rfl) (by kernel_rfl) (by kernel_rfl) (fun _ _ _ h => h) (Or.inl ⟨by rfl, ?h3⟩) hHeld ?r3
  case h3 =>
    intro wS hSw
    (try dsimp only at hSw)
    go_simp
    try with_reducible rfl
  case r3 =>
  simp only [Act.put, List.setIfInBounds_toArray, List.set_cons_zero, List.set_cons_succ]
  refine wpAnyH_take (i := 4) (oi := { dst := some 87, op := Go.Op.pick (Go.Operand.tmp 85) (Go.Operand.tmp 86) (Go.Operand.const (Go.Value.bool false)), type := 4, pos := "l03_write.go:96", after := #[{ on := 2, ground := Go.Ground.data }, { on := 3, ground := Go.Ground.data }], guard := none }) (v := ?v4) rfl (by kernel_rfl) (by kernel_rfl) (by kernel_rfl) (fun _ _ _ h => h) (Or.inl ⟨by rfl, ?h4⟩) hHeld ?r4
  case h4 =>
    intro wS hSw
    (try dsimp only at hSw)
    go_simp
    try with_reducible rfl
  case r4 =>
  simp only [Act.put, List.setIfInBounds_toArray, List.set_cons_zero, List.set_cons_succ]
  refine wpAnyH_take (i := 5) (oi := { dst := some 88, op := Go.Op.move (Go.Operand.tmp 87), type := 4, pos := "l03_write.go:96", after := #[{ on := 4, ground := Go.Ground.data }, { on := 2, ground := Go.Ground.chain }], guard := none }) (v := ?v5) rfl (by kernel_rfl) (by kernel_rfl) (by kernel_rfl) (fun _ _ _ h => h) (Or.inl ⟨by rfl, ?h5⟩) hHeld ?r5
  case h5 =>
    intro wS hSw
    (try dsimp only at hSw)
    go_simp
    try with_reducible rfl
  case r5 =>
  simp only [Act.put, List.setIfInBounds_toArray, List.set_cons_zero, List.set_cons_succ]
  refine wpAnyH_take (i := 6) (oi := { dst := some 89, op := Go.Op.move (Go.Operand.tmp 12), type := 4, pos := "l03_write.go:96", after := #[{ on := 5, ground := Go.Ground.guard }], guard := some (5, true) }) (v := undef) rfl (by kernel_rfl) (by kernel_rfl) (by kernel_rfl) (fun _ _ _ h => h) (Or.inr ⟨by rfl, rfl⟩) hHeld ?_
  simp only [Act.put, List.setIfInBounds_toArray, List.set_cons_zero, List.set_cons_succ]
  refine wpAnyH_take (i := 7) (oi := { dst := some 90, op := Go.Op.pick (Go.Operand.tmp 88) (Go.Operand.tmp 89) (Go.Operand.const (Go.Value.bool false)), type := 4, pos := "l03_write.go:96", after := #[{ on := 5, ground := Go.Ground.data }, { on := 6, ground := Go.Ground.data }], guard := none }) (v := ?v7) rfl (by kernel_rfl) (by kernel_rfl) (by kernel_rfl) (fun _ _ _ h => h) (Or.inl ⟨by rfl, ?h7⟩) hHeld ?r7
  case h7 =>
    intro wS hSw
    (try dsimp only at hSw)
    go_simp
    try with_reducible rfl
  case r7 =>
  simp only [Act.put, List.setIfInBounds_toArray, List.set_cons_zero, List.set_cons_succ]
  refine wpAnyH_take (i := 8) (oi := { dst := some 91, op := Go.Op.move (Go.Operand.tmp 90), type := 4, pos := "l03_write.go:96", after := #[{ on := 7, ground := Go.Ground.data }, { on := 5, ground := Go.Ground.chain }], guard := none }) (v := ?v8) rfl (by kernel_rfl) (by kernel_rfl) (by kernel_rfl) (fun _ _ _ h => h) (Or.inl ⟨by rfl, ?h8⟩) hHeld ?r8
  case h8 =>
    intro wS hSw
    (try dsimp only at hSw)
    go_simp
    try with_reducible rfl
  case r8 =>
  simp only [Act.put, List.setIfInBounds_toArray, List.set_cons_zero, List.set_cons_succ]
  refine wpAnyH_take (i := 9) (oi := { dst := some 92, op := Go.Op.call { callee := Go.Callee.value (Go.Operand.func 37), args := #[Go.Operand.tmp 4], argTypes := #[48] }, type := 2, pos := "l03_write.go:96", after := #[{ on := 8, ground := Go.Ground.chain }, { on := 8, ground := Go.Ground.guard }], guard := some (8, true) }) (v := undef) rfl (by kernel_rfl) (by kernel_rfl) (by kernel_rfl) (fun _ _ _ h => h) (Or.inr ⟨by rfl, rfl⟩) hHeld ?_
  simp only [Act.put, List.setIfInBounds_toArray, List.set_cons_zero, List.set_cons_succ]
  refine wpAnyH_take (i := 10) (oi := { dst := some 93, op := Go.Op.binOp Go.BinOp.eql 2 (Go.Operand.tmp 92) (Go.Operand.const (Go.Value.int Go.IntKind.i64 0)) 2, type := 4, pos := "l03_write.go:96", after := #[{ on := 9, ground := Go.Ground.data }, { on := 8, ground := Go.Ground.guard }, { on := 12, ground := Go.Ground.gcOnly Go.Departure.lateStores }], guard := some (8, true) }) (v := undef) rfl (by kernel_rfl) (by kernel_rfl) (by kernel_rfl) (fun _ _ _ h => h) (Or.inr ⟨by rfl, rfl⟩) hHeld ?_
  simp only [Act.put, List.setIfInBounds_toArray, List.set_cons_zero, List.set_cons_succ]
  refine wpAnyH_take (i := 11) (oi := { dst := some 94, op := Go.Op.pick (Go.Operand.tmp 91) (Go.Operand.tmp 93) (Go.Operand.const (Go.Value.bool false)), type := 4, pos := "l03_write.go:96", after := #[{ on := 8, ground := Go.Ground.data }, { on := 10, ground := Go.Ground.data }, { on := 12, ground := Go.Ground.gcOnly Go.Departure.lateStores }], guard := none }) (v := ?v11) rfl (by kernel_rfl) (by kernel_rfl) (by kernel_rfl) (fun _ _ _ h => h) (Or.inl ⟨by rfl, ?h11⟩) hHeld ?r11
  case h11 =>
    intro wS hSw
    (try dsimp only at hSw)
    go_simp
    try with_reducible rfl
  case r11 =>
  simp only [Act.put, List.setIfInBounds_toArray, List.set_cons_zero, List.set_cons_succ]
  refine wpAnyH_ready (rs := [12]) (by kernel_rfl) (by simp) ?_
  refine AllReadyH.cons (o := { dst := none, op := Go.Op.store 27 (Go.Operand.tmp 2) (Go.Operand.tmp 83), type := 0, pos := "l03_write.go:96", after := #[{ on := 0, ground := Go.Ground.data }, { on := 9, ground := Go.Ground.chain }, { on := 0, ground := Go.Ground.phase }, { on := 1, ground := Go.Ground.textOnly Go.Departure.lateStores }, { on := 2, ground := Go.Ground.textOnly Go.Departure.lateStores }, { on := 3, ground := Go.Ground.textOnly Go.Departure.lateStores }, { on := 4, ground := Go.Ground.textOnly Go.Departure.lateStores }, { on := 5, ground := Go.Ground.textOnly Go.Departure.lateStores }, { on := 6, ground := Go.Ground.textOnly Go.Departure.lateStores }, { on := 7, ground := Go.Ground.textOnly Go.Departure.lateStores }, { on := 8, ground := Go.Ground.textOnly Go.Departure.lateStores }, { on := 9, ground := Go.Ground.textOnly Go.Departure.lateStoresUnsure }, { on := 10, ground := Go.Ground.textOnly Go.Departure.lateStores }, { on := 11, ground := Go.Ground.textOnly Go.Departure.lateStores }], guard := none }) rfl (fun K hK => ?_) AllReadyH.nil
  obtain ⟨hb9, bX9, ⟨cs9, hs9, bR9⟩, hv9, hz9⟩ := hHeld
  obtain ⟨q0, q1, q2, q3, q4, rfl⟩ : ∃ q0 q1 q2 q3 q4 : Value, cs9 = #[q0, q1, q2, q3, q4] := by
    obtain ⟨l⟩ := cs9
    match l, hs9 with
    | [q0, q1, q2, q3, q4], _ => exact ⟨q0, q1, q2, q3, q4, rfl⟩
  have e0 : wD.cell? ⟨w.heap.size, 0, none⟩ = some q0 := bR9.at 0 _ rfl
  have e1 : wD.cell? ⟨w.heap.size, 1, none⟩ = some q1 := bR9.at 1 _ rfl
  have e2 : wD.cell? ⟨w.heap.size, 2, none⟩ = some q2 := bR9.at 2 _ rfl
  have e3 : wD.cell? ⟨w.heap.size, 3, none⟩ = some q3 := bR9.at 3 _ rfl
  have e4 : wD.cell? ⟨w.heap.size, 4, none⟩ = some q4 := bR9.at 4 _ rfl
  have ef : ∀ o, wD.frozen? ⟨w.heap.size, o, none⟩ = false := bR9.soft
  have el : w.heap.size < wD.heap.size := bR9.lt
  go_simp
  try go_wp2_with fail
  refine hK.out _ _ (storeR (vs := [.int .i64 2, .int .i64 na, .slice none 0 0, .int .i64 ns, .int .i64 nq]) hb9 bX9 bR9 hv9 hz9 (by omega) rfl) (fun hHeld => ?_)
  clear hK K
  try simp only [Act.put, List.setIfInBounds_toArray, List.set_cons_zero, List.set_cons_succ]
  refine wpAnyH_take (i := 13) (oi := { dst := some 3, op := Go.Op.assign (Go.Operand.tmp 94), type := 4, pos := "l03_write.go:96", after := #[{ on := 11, ground := Go.Ground.data }, { on := 12, ground := Go.Ground.chain }, { on := 0, ground := Go.Ground.phase }, { on := 1, ground := Go.Ground.phase }, { on := 2, ground := Go.Ground.phase }, { on := 3, ground := Go.Ground.phase }, { on := 4, ground := Go.Ground.phase }, { on := 5, ground := Go.Ground.phase }, { on := 6, ground := Go.Ground.phase }, { on := 7, ground := Go.Ground.phase }, { on := 8, ground := Go.Ground.phase }, { on := 9, ground := Go.Ground.phase }, { on := 10, ground := Go.Ground.phase }, { on := 11, ground := Go.Ground.phase }, { on := 12, ground := Go.Ground.phase }], guard := none }) (v := ?v13) rfl (by kernel_rfl) (by kernel_rfl) (by kernel_rfl) (fun _ _ _ h => h) (Or.inl ⟨by rfl, ?h13⟩) hHeld ?r13
  case h13 =>
    intro wS hSw
    (try dsimp only at hSw)
    go_simp
    try with_reducible rfl
  case r13 =>
  simp only [Act.put, List.setIfInBounds_toArray, List.set_cons_zero, List.set_cons_succ]
  refine wpAnyH_done (by kernel_rfl) ?_ _
  refine NoPanic.normal ?_
  have HS := hide hHeld
  clear hHeld
  go_wp2_with fail
  refine bodyPost_ret (v := .tuple #[.agg #[.int .i64 2, .int .i64 na, .slice none 0 0, .int .i64 ns, .int .i64 nq], .bool false]) (by simp [results, Tryz.results28, go_sem, e0, e1, e2, e3, e4]) rfl ?_
  obtain ⟨s1, -, -, s4, s5⟩ := unhide HS
  refine ⟨[.int .i64 2, .int .i64 na, .slice none 0 0, .int .i64 ns, .int .i64 nq], rfl, ?_, s1⟩
  have fa : (Lit.int .i64 na).wf = true := wf_of_bd (by omega)
  have fb : (Lit.int .i64 ns).wf = true := wf_of_bd (by omega)
  have fc : (Lit.int .i64 nq).wf = true := wf_of_bd (by omega)
  exact readsR (x := ⟨2, na, [], ns, nq⟩) (s4.mono (by omega) s5) (by rfl) fa fb fc

set_option maxRecDepth 100000 in
set_option maxHeartbeats 4000000 in
theorem l3Read_drop2 (g cap : Nat) (a b c : ByteArray) (w : World) (h0 : w.cell? ⟨g, 0, none⟩ = some (.string ⟨#[100, 114, 111, 112]⟩)) (h1 : w.cell? ⟨g, 1, none⟩ = some (.string a)) (h2 : w.cell? ⟨g, 2, none⟩ = some (.string ⟨#[98, 121]⟩)) (h3 : w.cell? ⟨g, 3, none⟩ = some (.string b)) (h4 : w.cell? ⟨g, 4, none⟩ = some (.string c))
    (za : a.size ≤ 1048576) (zb : b.size ≤ 1048576) (zc : c.size ≤ 1048576) (ka : (numR a.data.toList).2 = true) (kb : (numR b.data.toList).2 = true) (kc : (numR c.data.toList).2 = false) :
    Calls Tryz.prog 28 #[.slice (some ⟨g, 0, none⟩) 5 cap] w fun e w' => ToldR w w' e (tailW 2 [] a.data.toList b.data.toList c.data.toList) false := by
  have bda := numR_bd a.data.toList
  have bdb := numR_bd b.data.toList
  have bdc := numR_bd c.data.toList
  have NA := hide (fun W => number a W za)
  have NB := hide (fun W => number b W zb)
  have NC := hide (fun W => number c W zc)
  unfold tailW
  generalize (numR a.data.toList).1 = na at *
  generalize (numR b.data.toList).1 = ns at *
  generalize (numR c.data.toList).1 = nq at *
  generalize (numR a.data.toList).2 = oa at *
  generalize (numR b.data.toList).2 = ob at *
  generalize (numR c.data.toList).2 = oc at *
  subst ka kb kc
  have nb0 : Below w.heap.size w (w.alloc (.cells #[.int .i64 0, .int .i64 0, .slice none 0 0, .int .i64 0, .int .i64 0] 27)) := (Below.refl _ _).alloc (Nat.le_refl _) _
  have nb1 : Below (w.alloc (.cells #[.int .i64 0, .int .i64 0, .slice none 0 0, .int .i64 0, .int .i64 0] 27)).heap.size (w.alloc (.cells #[.int .i64 0, .int .i64 0, .slice none 0 0, .int .i64 0, .int .i64 0] 27)) ((w.alloc (.cells #[.int .i64 0, .int .i64 0, .slice none 0 0, .int .i64 0, .int .i64 0] 27)).alloc (.cells #[.int .i64 2, .int .i64 0, .slice none 0 0, .int .i64 0, .int .i64 0] 27)) := (Below.refl _ _).alloc (Nat.le_refl _) _
  have bR : Box 0 #[.int .i64 0, .int .i64 0, .slice none 0 0, .int .i64 0, .int .i64 0] 27 ((w.alloc (.cells #[.int .i64 0, .int .i64 0, .slice none 0 0, .int .i64 0, .int .i64 0] 27)).alloc (.cells #[.int .i64 2, .int .i64 0, .slice none 0 0, .int .i64 0, .int .i64 0] 27)) w.heap.size := (newBox (Nat.zero_le _)).keep nb1
  have nb := nb0.trans (nb1.mono nb0.size)
  clear nb0 nb1
  have bX : Box 0 #[.int .i64 2, .int .i64 0, .slice none 0 0, .int .i64 0, .int .i64 0] 27 ((w.alloc (.cells #[.int .i64 0, .int .i64 0, .slice none 0 0, .int .i64 0, .int .i64 0] 27)).alloc (.cells #[.int .i64 2, .int .i64 0, .slice none 0 0, .int .i64 0, .int .i64 0] 27)) (w.heap.size + 1) := by
    have := newBox (W := w.alloc (.cells #[.int .i64 0, .int .i64 0, .slice none 0 0, .int .i64 0, .int .i64 0] 27)) (cs := #[.int .i64 2, .int .i64 0, .slice none 0 0, .int .i64 0, .int .i64 0]) (T := 27) (lo := 0) (Nat.zero_le _)
    simpa using this
  have d0 := cell_keep nb h0
  have d1 := cell_keep nb h1
  have d2 := cell_keep nb h2
  have d3 := cell_keep nb h3
  have d4 := cell_keep nb h4
  clear h0 h1 h2 h3 h4
  have HB := hide nb
  have HX := hide bX
  have HR := hide bR
  clear nb bX bR
  go_enter Tryz.func28, Tryz.ntmps28
  go_wp2_with fail
  have bX := unhide HX
  have bR := unhide HR
  clear HX HR d0 d2
  generalize (w.alloc (.cells #[.int .i64 0, .int .i64 0, .slice none 0 0, .int .i64 0, .int .i64 0] 27)).alloc (.cells #[.int .i64 2, .int .i64 0, .slice none 0 0, .int .i64 0, .int .i64 0] 27) = W1 at *
  have hsx : w.heap.size < w.heap.size + 1 := by omega
  generalize w.heap.size + 1 = sx at *
  have HVI : Hid ((Lay.sl Lay.int).LiesIn W1 [.slice none 0 0] [] (sx + 1) W1.heap.size) := ⟨[], Lay.lies_ints.2 ⟨none, 0, rfl, ⟨by simp, by simp⟩, by simp, Or.inl ⟨rfl, rfl⟩⟩, by simp⟩
  refine (unhide NA _).mono ?_
  rintro e w1 ⟨rfl, hb⟩
  replace bX := bX.keep hb
  replace bR := bR.keep hb
  replace HB := hide ((unhide HB).trans (hb.mono (unhide HB).size))
  replace HVI := hide (((unhide HVI).later hb).mono (Nat.le_refl _) (hi' := w1.heap.size) hb.size)
  replace d3 := cell_keep hb d3
  replace d4 := cell_keep hb d4
  clear hb d1
  have HX := hide bX
  have HR := hide bR
  clear bX bR
  go_wp2_with fail
  have bX := unhide HX
  have bR := unhide HR
  clear HX HR
  refine (unhide NB _).mono ?_
  rintro e w2 ⟨rfl, hb⟩
  replace bX := bX.keep hb
  replace bR := bR.keep hb
  replace HB := hide ((unhide HB).trans (hb.mono (unhide HB).size))
  replace HVI := hide (((unhide HVI).later hb).mono (Nat.le_refl _) (hi' := w2.heap.size) hb.size)
  replace d4 := cell_keep hb d4
  clear hb d3
  have HX := hide bX
  have HR := hide bR
  clear bX bR
  go_wp2_with fail
  have bX := unhide HX
  have bR := unhide HR
  clear HX HR
  refine (unhide NC _).mono ?_
  rintro e w3 ⟨rfl, hb⟩
  replace bX := bX.keep hb
  replace bR := bR.keep hb
  replace HB := hide ((unhide HB).trans (hb.mono (unhide HB).size))
  replace HVI := hide (((unhide HVI).later hb).mono (Nat.le_refl _) (hi' := w3.heap.size) hb.size)
  clear hb d4
  have x0 := bX.at 0 _ rfl
  have x1 := bX.at 1 _ rfl
  have x2 := bX.at 2 _ rfl
  have x3 := bX.at 3 _ rfl
  have x4 := bX.at 4 _ rfl
  have xf := bX.soft
  have xl := bX.lt
  have HX := hide bX
  have HR := hide bR
  clear bX bR
  simp only [List.getElem_toArray, List.getElem_cons_zero, List.getElem_cons_succ] at x0 x1 x2 x3 x4
  go_wp2_with fail
  obtain ⟨bX, bR, hB1, hV2⟩ := storeX (.int .i64 na) (.int .i64 ns) (.int .i64 nq) hsx (unhide HX) (unhide HR) (unhide HB) (unhide HVI)
  have HB1 := hide hB1
  have HV2 := hide hV2
  clear hB1 hV2
  clear HX HR HB HVI x0 x1 x2 x3 x4 xf xl
  generalize ((w3.setCell ⟨sx, 1, none⟩ (.int .i64 na)).setCell ⟨sx, 3, none⟩ (.int .i64 ns)).setCell ⟨sx, 4, none⟩ (.int .i64 nq) = W2 at *
  refine wp_region_noPanic ?_
  refine wp_region_held_drew (S := fun w' => Below w.heap.size w w' ∧ Box 0 #[.int .i64 2, .int .i64 na, .slice none 0 0, .int .i64 ns, .int .i64 nq] 27 w' sx ∧ (∃ cs : Array Value, cs.size = 5 ∧ Box 0 cs 27 w' w.heap.size) ∧ (Lay.sl Lay.int).LiesIn w' [.slice none 0 0] [] (sx + 1) W2.heap.size ∧ W2.heap.size ≤ w'.heap.size) (by kernel_rfl) ⟨(unhide HB1).drew, bX.drew, ⟨_, rfl, bR.drew⟩, unhide HV2, Nat.le_refl _⟩ (fun hHeld => ?_)
  generalize W2.drew = wD at hHeld ⊢
  refine wpAnyH_take (i := 0) (oi := { dst := some 83, op := Go.Op.load 27 (Go.Operand.tmp 4), type := 27, pos := "l03_write.go:96", after := #[], guard := none }) (v := ?v0) rfl (by kernel_rfl) (by kernel_rfl) (by kernel_rfl) (fun _ _ _ h => h) (Or.inl ⟨by rfl, ?h0⟩) hHeld ?r0
  case h0 =>
    intro wS hSw
    have y0 := hSw.2.1.at 0 _ rfl
    have y1 := hSw.2.1.at 1 _ rfl
    have y2 := hSw.2.1.at 2 _ rfl
    have y3 := hSw.2.1.at 3 _ rfl
    have y4 := hSw.2.1.at 4 _ rfl
    simp only [List.getElem_toArray, List.getElem_cons_zero, List.getElem_cons_succ] at y0 y1 y2 y3 y4
    clear hSw
    (try dsimp only at hSw)
    go_simp
    try with_reducible rfl
  case r0 =>
  simp only [Act.put, List.setIfInBounds_toArray, List.set_cons_zero, List.set_cons_succ]
  refine wpAnyH_take (i := 1) (oi := { dst := some 84, op := Go.Op.move (Go.Operand.tmp 8), type := 4, pos := "l03_write.go:96", after := #[], guard := none }) (v := ?v1) rfl (by kernel_rfl) (by kernel_rfl) (by kernel_rfl) (fun _ _ _ h => h) (Or.inl ⟨by rfl, ?h1⟩) hHeld ?r1
  case h1 =>
    intro wS hSw
    (try dsimp only at hSw)
    go_simp
    try with_reducible rfl
  case r1 =>
  simp only [Act.put, List.setIfInBounds_toArray, List.set_cons_zero, List.set_cons_succ]
  refine wpAnyH_take (i := 2) (oi := { dst := some 85, op := Go.Op.move (Go.Operand.tmp 84), type := 4, pos := "l03_write.go:96", after := #[{ on := 1, ground := Go.Ground.data }], guard := none }) (v := ?v2) rfl (by kernel_rfl) (by kernel_rfl) (by kernel_rfl) (fun _ _ _ h => h) (Or.inl ⟨by rfl, ?h2⟩) hHeld ?r2
  case h2 =>
    intro wS hSw
    (try dsimp only at hSw)
    go_simp
    try with_reducible rfl
  case r2 =>
  simp only [Act.put, List.setIfInBounds_toArray, List.set_cons_zero, List.set_cons_succ]
  refine wpAnyH_take (i := 3) (oi := { dst := some 86, op := Go.Op.move (Go.Operand.tmp 10), type := 4, pos := "l03_write.go:96", after := #[{ on := 2, ground := Go.Ground.guard }], guard := some (2, true) }) (v := ?v3) rfl (by kernel_rfl) (by kernel_rfl) (by kernel_rfl) (fun _ _ _ h => h) (Or.inl ⟨by rfl, ?h3⟩) hHeld ?r3
  case h3 =>
    intro wS hSw
    (try dsimp only at hSw)
    go_simp
    try with_reducible rfl
  case r3 =>
  simp only [Act.put, List.setIfInBounds_toArray, List.set_cons_zero, List.set_cons_succ]
  refine wpAnyH_take (i := 4) (oi := { dst := some 87, op := Go.Op.pick (Go.Operand.tmp 85) (Go.Operand.tmp 86) (Go.Operand.const (Go.Value.bool false)), type := 4, pos := "l03_write.go:96", after := #[{ on := 2, ground := Go.Ground.data }, { on := 3, ground := Go.Ground.data }], guard := none }) (v := ?v4) rfl (by kernel_rfl) (by kernel_rfl) (by kernel_rfl) (fun _ _ _ h => h) (Or.inl ⟨by rfl, ?h4⟩) hHeld ?r4
  case h4 =>
    intro wS hSw
    (try dsimp only at hSw)
    go_simp
    try with_reducible rfl
  case r4 =>
  simp only [Act.put, List.setIfInBounds_toArray, List.set_cons_zero, List.set_cons_succ]
  refine wpAnyH_take (i := 5) (oi := { dst := some 88, op := Go.Op.move (Go.Operand.tmp 87), type := 4, pos := "l03_write.go:96", after := #[{ on := 4, ground := Go.Ground.data }, { on := 2, ground := Go.Ground.chain }], guard := none }) (v := ?v5) rfl (by kernel_rfl) (by kernel_rfl) (by kernel_rfl) (fun _ _ _ h => h) (Or.inl ⟨by rfl, ?h5⟩) hHeld ?r5
  case h5 =>
    intro wS hSw
    (try dsimp only at hSw)
    go_simp
    try with_reducible rfl
  case r5 =>
  simp only [Act.put, List.setIfInBounds_toArray, List.set_cons_zero, List.set_cons_succ]
  refine wpAnyH_take (i := 6) (oi := { dst := some 89, op := Go.Op.move (Go.Operand.tmp 12), type := 4, pos := "l03_write.go:96", after := #[{ on := 5, ground := Go.Ground.guard }], guard := some (5, true) }) (v := ?v6) rfl (by kernel_rfl) (by kernel_rfl) (by kernel_rfl) (fun _ _ _ h => h) (Or.inl ⟨by rfl, ?h6⟩) hHeld ?r6
  case h6 =>
    intro wS hSw
    (try dsimp only at hSw)
    go_simp
    try with_reducible rfl
  case r6 =>
  simp only [Act.put, List.setIfInBounds_toArray, List.set_cons_zero, List.set_cons_succ]
  refine wpAnyH_take (i := 7) (oi := { dst := some 90, op := Go.Op.pick (Go.Operand.tmp 88) (Go.Operand.tmp 89) (Go.Operand.const (Go.Value.bool false)), type := 4, pos := "l03_write.go:96", after := #[{ on := 5, ground := Go.Ground.data }, { on := 6, ground := Go.Ground.data }], guard := none }) (v := ?v7) rfl (by kernel_rfl) (by kernel_rfl) (by kernel_rfl) (fun _ _ _ h => h) (Or.inl ⟨by rfl, ?h7⟩) hHeld ?r7
  case h7 =>
    intro wS hSw
    (try dsimp only at hSw)
    go_simp
    try with_reducible rfl
  case r7 =>
  simp only [Act.put, List.setIfInBounds_toArray, List.set_cons_zero, List.set_cons_succ]
  refine wpAnyH_take (i := 8) (oi := { dst := some 91, op := Go.Op.move (Go.Operand.tmp 90), type := 4, pos := "l03_write.go:96", after := #[{ on := 7, ground := Go.Ground.data }, { on := 5, ground := Go.Ground.chain }], guard := none }) (v := ?v8) rfl (by kernel_rfl) (by kernel_rfl) (by kernel_rfl) (fun _ _ _ h => h) (Or.inl ⟨by rfl, ?h8⟩) hHeld ?r8
  case h8 =>
    intro wS hSw
    (try dsimp only at hSw)
    go_simp
    try with_reducible rfl
  case r8 =>
  simp only [Act.put, List.setIfInBounds_toArray, List.set_cons_zero, List.set_cons_succ]
  refine wpAnyH_take (i := 9) (oi := { dst := some 92, op := Go.Op.call { callee := Go.Callee.value (Go.Operand.func 37), args := #[Go.Operand.tmp 4], argTypes := #[48] }, type := 2, pos := "l03_write.go:96", after := #[{ on := 8, ground := Go.Ground.chain }, { on := 8, ground := Go.Ground.guard }], guard := some (8, true) }) (v := undef) rfl (by kernel_rfl) (by kernel_rfl) (by kernel_rfl) (fun _ _ _ h => h) (Or.inr ⟨by rfl, rfl⟩) hHeld ?_
  simp only [Act.put, List.setIfInBounds_toArray, List.set_cons_zero, List.set_cons_succ]
  refine wpAnyH_take (i := 10) (oi := { dst := some 93, op := Go.Op.binOp Go.BinOp.eql 2 (Go.Operand.tmp 92) (Go.Operand.const (Go.Value.int Go.IntKind.i64 0)) 2, type := 4, pos := "l03_write.go:96", after := #[{ on := 9, ground := Go.Ground.data }, { on := 8, ground := Go.Ground.guard }, { on := 12, ground := Go.Ground.gcOnly Go.Departure.lateStores }], guard := some (8, true) }) (v := undef) rfl (by kernel_rfl) (by kernel_rfl) (by kernel_rfl) (fun _ _ _ h => h) (Or.inr ⟨by rfl, rfl⟩) hHeld ?_
  simp only [Act.put, List.setIfInBounds_toArray, List.set_cons_zero, List.set_cons_succ]
  refine wpAnyH_take (i := 11) (oi := { dst := some 94, op := Go.Op.pick (Go.Operand.tmp 91) (Go.Operand.tmp 93) (Go.Operand.const (Go.Value.bool false)), type := 4, pos := "l03_write.go:96", after := #[{ on := 8, ground := Go.Ground.data }, { on := 10, ground := Go.Ground.data }, { on := 12, ground := Go.Ground.gcOnly Go.Departure.lateStores }], guard := none }) (v := ?v11) rfl (by kernel_rfl) (by kernel_rfl) (by kernel_rfl) (fun _ _ _ h => h) (Or.inl ⟨by rfl, ?h11⟩) hHeld ?r11
  case h11 =>
    intro wS hSw
    (try dsimp only at hSw)
    go_simp
    try with_reducible rfl
  case r11 =>
  simp only [Act.put, List.setIfInBounds_toArray, List.set_cons_zero, List.set_cons_succ]
  refine wpAnyH_ready (rs := [12]) (by kernel_rfl) (by simp) ?_
  refine AllReadyH.cons (o := { dst := none, op := Go.Op.store 27 (Go.Operand.tmp 2) (Go.Operand.tmp 83), type := 0, pos := "l03_write.go:96", after := #[{ on := 0, ground := Go.Ground.data }, { on := 9, ground := Go.Ground.chain }, { on := 0, ground := Go.Ground.phase }, { on := 1, ground := Go.Ground.textOnly Go.Departure.lateStores }, { on := 2, ground := Go.Ground.textOnly Go.Departure.lateStores }, { on := 3, ground := Go.Ground.textOnly Go.Departure.lateStores }, { on := 4, ground := Go.Ground.textOnly Go.Departure.lateStores }, { on := 5, ground := Go.Ground.textOnly Go.Departure.lateStores }, { on := 6, ground := Go.Ground.textOnly Go.Departure.lateStores }, { on := 7, ground := Go.Ground.textOnly Go.Departure.lateStores }, { on := 8, ground := Go.Ground.textOnly Go.Departure.lateStores }, { on := 9, ground := Go.Ground.textOnly Go.Departure.lateStoresUnsure }, { on := 10, ground := Go.Ground.textOnly Go.Departure.lateStores }, { on := 11, ground := Go.Ground.textOnly Go.Departure.lateStores }], guard := none }) rfl (fun K hK => ?_) AllReadyH.nil
  obtain ⟨hb9, bX9, ⟨cs9, hs9, bR9⟩, hv9, hz9⟩ := hHeld
  obtain ⟨q0, q1, q2, q3, q4, rfl⟩ : ∃ q0 q1 q2 q3 q4 : Value, cs9 = #[q0, q1, q2, q3, q4] := by
    obtain ⟨l⟩ := cs9
    match l, hs9 with
    | [q0, q1, q2, q3, q4], _ => exact ⟨q0, q1, q2, q3, q4, rfl⟩
  have e0 : wD.cell? ⟨w.heap.size, 0, none⟩ = some q0 := bR9.at 0 _ rfl
  have e1 : wD.cell? ⟨w.heap.size, 1, none⟩ = some q1 := bR9.at 1 _ rfl
  have e2 : wD.cell? ⟨w.heap.size, 2, none⟩ = some q2 := bR9.at 2 _ rfl
  have e3 : wD.cell? ⟨w.heap.size, 3, none⟩ = some q3 := bR9.at 3 _ rfl
  have e4 : wD.cell? ⟨w.heap.size, 4, none⟩ = some q4 := bR9.at 4 _ rfl
  have ef : ∀ o, wD.frozen? ⟨w.heap.size, o, none⟩ = false := bR9.soft
  have el : w.heap.size < wD.heap.size := bR9.lt
  go_simp
  try go_wp2_with fail
  refine hK.out _ _ (storeR (vs := [.int .i64 2, .int .i64 na, .slice none 0 0, .int .i64 ns, .int .i64 nq]) hb9 bX9 bR9 hv9 hz9 (by omega) rfl) (fun hHeld => ?_)
  clear hK K
  try simp only [Act.put, List.setIfInBounds_toArray, List.set_cons_zero, List.set_cons_succ]
  refine wpAnyH_take (i := 13) (oi := { dst := some 3, op := Go.Op.assign (Go.Operand.tmp 94), type := 4, pos := "l03_write.go:96", after := #[{ on := 11, ground := Go.Ground.data }, { on := 12, ground := Go.Ground.chain }, { on := 0, ground := Go.Ground.phase }, { on := 1, ground := Go.Ground.phase }, { on := 2, ground := Go.Ground.phase }, { on := 3, ground := Go.Ground.phase }, { on := 4, ground := Go.Ground.phase }, { on := 5, ground := Go.Ground.phase }, { on := 6, ground := Go.Ground.phase }, { on := 7, ground := Go.Ground.phase }, { on := 8, ground := Go.Ground.phase }, { on := 9, ground := Go.Ground.phase }, { on := 10, ground := Go.Ground.phase }, { on := 11, ground := Go.Ground.phase }, { on := 12, ground := Go.Ground.phase }], guard := none }) (v := ?v13) rfl (by kernel_rfl) (by kernel_rfl) (by kernel_rfl) (fun _ _ _ h => h) (Or.inl ⟨by rfl, ?h13⟩) hHeld ?r13
  case h13 =>
    intro wS hSw
    (try dsimp only at hSw)
    go_simp
    try with_reducible rfl
  case r13 =>
  simp only [Act.put, List.setIfInBounds_toArray, List.set_cons_zero, List.set_cons_succ]
  refine wpAnyH_done (by kernel_rfl) ?_ _
  refine NoPanic.normal ?_
  have HS := hide hHeld
  clear hHeld
  go_wp2_with fail
  refine bodyPost_ret (v := .tuple #[.agg #[.int .i64 2, .int .i64 na, .slice none 0 0, .int .i64 ns, .int .i64 nq], .bool false]) (by simp [results, Tryz.results28, go_sem, e0, e1, e2, e3, e4]) rfl ?_
  obtain ⟨s1, -, -, s4, s5⟩ := unhide HS
  refine ⟨[.int .i64 2, .int .i64 na, .slice none 0 0, .int .i64 ns, .int .i64 nq], rfl, ?_, s1⟩
  have fa : (Lit.int .i64 na).wf = true := wf_of_bd (by omega)
  have fb : (Lit.int .i64 ns).wf = true := wf_of_bd (by omega)
  have fc : (Lit.int .i64 nq).wf = true := wf_of_bd (by omega)
  exact readsR (x := ⟨2, na, [], ns, nq⟩) (s4.mono (by omega) s5) (by rfl) fa fb fc

set_option maxRecDepth 100000 in
set_option maxHeartbeats 4000000 in
theorem l3Read_drop3 (g cap : Nat) (a b c : ByteArray) (w : World) (h0 : w.cell? ⟨g, 0, none⟩ = some (.string ⟨#[100, 114, 111, 112]⟩)) (h1 : w.cell? ⟨g, 1, none⟩ = some (.string a)) (h2 : w.cell? ⟨g, 2, none⟩ = some (.string ⟨#[98, 121]⟩)) (h3 : w.cell? ⟨g, 3, none⟩ = some (.string b)) (h4 : w.cell? ⟨g, 4, none⟩ = some (.string c))
    (za : a.size ≤ 1048576) (zb : b.size ≤ 1048576) (zc : c.size ≤ 1048576) (ka : (numR a.data.toList).2 = true) (kb : (numR b.data.toList).2 = true) (kc : (numR c.data.toList).2 = true) :
    Calls Tryz.prog 28 #[.slice (some ⟨g, 0, none⟩) 5 cap] w fun e w' => ToldR w w' e (tailW 2 [] a.data.toList b.data.toList c.data.toList) (writeFault 2 (numR a.data.toList).1 [] (numR b.data.toList).1 (numR c.data.toList).1 == 0) := by
  have bda := numR_bd a.data.toList
  have bdb := numR_bd b.data.toList
  have bdc := numR_bd c.data.toList
  have NA := hide (fun W => number a W za)
  have NB := hide (fun W => number b W zb)
  have NC := hide (fun W => number c W zc)
  unfold tailW
  generalize (numR a.data.toList).1 = na at *
  generalize (numR b.data.toList).1 = ns at *
  generalize (numR c.data.toList).1 = nq at *
  generalize (numR a.data.toList).2 = oa at *
  generalize (numR b.data.toList).2 = ob at *
  generalize (numR c.data.toList).2 = oc at *
  subst ka kb kc
  have nb0 : Below w.heap.size w (w.alloc (.cells #[.int .i64 0, .int .i64 0, .slice none 0 0, .int .i64 0, .int .i64 0] 27)) := (Below.refl _ _).alloc (Nat.le_refl _) _
  have nb1 : Below (w.alloc (.cells #[.int .i64 0, .int .i64 0, .slice none 0 0, .int .i64 0, .int .i64 0] 27)).heap.size (w.alloc (.cells #[.int .i64 0, .int .i64 0, .slice none 0 0, .int .i64 0, .int .i64 0] 27)) ((w.alloc (.cells #[.int .i64 0, .int .i64 0, .slice none 0 0, .int .i64 0, .int .i64 0] 27)).alloc (.cells #[.int .i64 2, .int .i64 0, .slice none 0 0, .int .i64 0, .int .i64 0] 27)) := (Below.refl _ _).alloc (Nat.le_refl _) _
  have bR : Box 0 #[.int .i64 0, .int .i64 0, .slice none 0 0, .int .i64 0, .int .i64 0] 27 ((w.alloc (.cells #[.int .i64 0, .int .i64 0, .slice none 0 0, .int .i64 0, .int .i64 0] 27)).alloc (.cells #[.int .i64 2, .int .i64 0, .slice none 0 0, .int .i64 0, .int .i64 0] 27)) w.heap.size := (newBox (Nat.zero_le _)).keep nb1
  have nb := nb0.trans (nb1.mono nb0.size)
  clear nb0 nb1
  have bX : Box 0 #[.int .i64 2, .int .i64 0, .slice none 0 0, .int .i64 0, .int .i64 0] 27 ((w.alloc (.cells #[.int .i64 0, .int .i64 0, .slice none 0 0, .int .i64 0, .int .i64 0] 27)).alloc (.cells #[.int .i64 2, .int .i64 0, .slice none 0 0, .int .i64 0, .int .i64 0] 27)) (w.heap.size + 1) := by
    have := newBox (W := w.alloc (.cells #[.int .i64 0, .int .i64 0, .slice none 0 0, .int .i64 0, .int .i64 0] 27)) (cs := #[.int .i64 2, .int .i64 0, .slice none 0 0, .int .i64 0, .int .i64 0]) (T := 27) (lo := 0) (Nat.zero_le _)
    simpa using this
  have d0 := cell_keep nb h0
  have d1 := cell_keep nb h1
  have d2 := cell_keep nb h2
  have d3 := cell_keep nb h3
  have d4 := cell_keep nb h4
  clear h0 h1 h2 h3 h4
  have HB := hide nb
  have HX := hide bX
  have HR := hide bR
  clear nb bX bR
  go_enter Tryz.func28, Tryz.ntmps28
  go_wp2_with fail
  have bX := unhide HX
  have bR := unhide HR
  clear HX HR d0 d2
  generalize (w.alloc (.cells #[.int .i64 0, .int .i64 0, .slice none 0 0, .int .i64 0, .int .i64 0] 27)).alloc (.cells #[.int .i64 2, .int .i64 0, .slice none 0 0, .int .i64 0, .int .i64 0] 27) = W1 at *
  have hsx : w.heap.size < w.heap.size + 1 := by omega
  generalize w.heap.size + 1 = sx at *
  have HVI : Hid ((Lay.sl Lay.int).LiesIn W1 [.slice none 0 0] [] (sx + 1) W1.heap.size) := ⟨[], Lay.lies_ints.2 ⟨none, 0, rfl, ⟨by simp, by simp⟩, by simp, Or.inl ⟨rfl, rfl⟩⟩, by simp⟩
  refine (unhide NA _).mono ?_
  rintro e w1 ⟨rfl, hb⟩
  replace bX := bX.keep hb
  replace bR := bR.keep hb
  replace HB := hide ((unhide HB).trans (hb.mono (unhide HB).size))
  replace HVI := hide (((unhide HVI).later hb).mono (Nat.le_refl _) (hi' := w1.heap.size) hb.size)
  replace d3 := cell_keep hb d3
  replace d4 := cell_keep hb d4
  clear hb d1
  have HX := hide bX
  have HR := hide bR
  clear bX bR
  go_wp2_with fail
  have bX := unhide HX
  have bR := unhide HR
  clear HX HR
  refine (unhide NB _).mono ?_
  rintro e w2 ⟨rfl, hb⟩
  replace bX := bX.keep hb
  replace bR := bR.keep hb
  replace HB := hide ((unhide HB).trans (hb.mono (unhide HB).size))
  replace HVI := hide (((unhide HVI).later hb).mono (Nat.le_refl _) (hi' := w2.heap.size) hb.size)
  replace d4 := cell_keep hb d4
  clear hb d3
  have HX := hide bX
  have HR := hide bR
  clear bX bR
  go_wp2_with fail
  have bX := unhide HX
  have bR := unhide HR
  clear HX HR
  refine (unhide NC _).mono ?_
  rintro e w3 ⟨rfl, hb⟩
  replace bX := bX.keep hb
  replace bR := bR.keep hb
  replace HB := hide ((unhide HB).trans (hb.mono (unhide HB).size))
  replace HVI := hide (((unhide HVI).later hb).mono (Nat.le_refl _) (hi' := w3.heap.size) hb.size)
  clear hb d4
  have x0 := bX.at 0 _ rfl
  have x1 := bX.at 1 _ rfl
  have x2 := bX.at 2 _ rfl
  have x3 := bX.at 3 _ rfl
  have x4 := bX.at 4 _ rfl
  have xf := bX.soft
  have xl := bX.lt
  have HX := hide bX
  have HR := hide bR
  clear bX bR
  simp only [List.getElem_toArray, List.getElem_cons_zero, List.getElem_cons_succ] at x0 x1 x2 x3 x4
  go_wp2_with fail
  obtain ⟨bX, bR, hB1, hV2⟩ := storeX (.int .i64 na) (.int .i64 ns) (.int .i64 nq) hsx (unhide HX) (unhide HR) (unhide HB) (unhide HVI)
  have HB1 := hide hB1
  have HV2 := hide hV2
  clear hB1 hV2
  clear HX HR HB HVI x0 x1 x2 x3 x4 xf xl
  generalize ((w3.setCell ⟨sx, 1, none⟩ (.int .i64 na)).setCell ⟨sx, 3, none⟩ (.int .i64 ns)).setCell ⟨sx, 4, none⟩ (.int .i64 nq) = W2 at *
  refine wp_region_noPanic ?_
  refine wp_region_held_drew (S := fun w' => Below w.heap.size w w' ∧ Box 0 #[.int .i64 2, .int .i64 na, .slice none 0 0, .int .i64 ns, .int .i64 nq] 27 w' sx ∧ (∃ cs : Array Value, cs.size = 5 ∧ Box 0 cs 27 w' w.heap.size) ∧ (Lay.sl Lay.int).LiesIn w' [.slice none 0 0] [] (sx + 1) W2.heap.size ∧ W2.heap.size ≤ w'.heap.size) (by kernel_rfl) ⟨(unhide HB1).drew, bX.drew, ⟨_, rfl, bR.drew⟩, unhide HV2, Nat.le_refl _⟩ (fun hHeld => ?_)
  generalize W2.drew = wD at hHeld ⊢
  refine wpAnyH_take (i := 0) (oi := { dst := some 83, op := Go.Op.load 27 (Go.Operand.tmp 4), type := 27, pos := "l03_write.go:96", after := #[], guard := none }) (v := ?v0) rfl (by kernel_rfl) (by kernel_rfl) (by kernel_rfl) (fun _ _ _ h => h) (Or.inl ⟨by rfl, ?h0⟩) hHeld ?r0
  case h0 =>
    intro wS hSw
    have y0 := hSw.2.1.at 0 _ rfl
    have y1 := hSw.2.1.at 1 _ rfl
    have y2 := hSw.2.1.at 2 _ rfl
    have y3 := hSw.2.1.at 3 _ rfl
    have y4 := hSw.2.1.at 4 _ rfl
    simp only [List.getElem_toArray, List.getElem_cons_zero, List.getElem_cons_succ] at y0 y1 y2 y3 y4
    clear hSw
    (try dsimp only at hSw)
    go_simp
    try with_reducible rfl
  case r0 =>
  simp only [Act.put, List.setIfInBounds_toArray, List.set_cons_zero, List.set_cons_succ]
  refine wpAnyH_take (i := 1) (oi := { dst := some 84, op := Go.Op.move (Go.Operand.tmp 8), type := 4, pos := "l03_write.go:96", after := #[], guard := none }) (v := ?v1) rfl (by kernel_rfl) (by kernel_rfl) (by kernel_rfl) (fun _ _ _ h => h) (Or.inl ⟨by rfl, ?h1⟩) hHeld ?r1
  case h1 =>
    intro wS hSw
    (try dsimp only at hSw)
    go_simp
    try with_reducible rfl
  case r1 =>
  simp only [Act.put, List.setIfInBounds_toArray, List.set_cons_zero, List.set_cons_succ]
  refine wpAnyH_take (i := 2) (oi := { dst := some 85, op := Go.Op.move (Go.Operand.tmp 84), type := 4, pos := "l03_write.go:96", after := #[{ on := 1, ground := Go.Ground.data }], guard := none }) (v := ?v2) rfl (by kernel_rfl) (by kernel_rfl) (by kernel_rfl) (fun _ _ _ h => h) (Or.inl ⟨by rfl, ?h2⟩) hHeld ?r2
  case h2 =>
    intro wS hSw
    (try dsimp only at hSw)
    go_simp
    try with_reducible rfl
  case r2 =>
  simp only [Act.put, List.setIfInBounds_toArray, List.set_cons_zero, List.set_cons_succ]
  refine wpAnyH_take (i := 3) (oi := { dst := some 86, op := Go.Op.move (Go.Operand.tmp 10), type := 4, pos := "l03_write.go:96", after := #[{ on := 2, ground := Go.Ground.guard }], guard := some (2, true) }) (v := ?v3) rfl (by kernel_rfl) (by kernel_rfl) (by kernel_rfl) (fun _ _ _ h => h) (Or.inl ⟨by rfl, ?h3⟩) hHeld ?r3
  case h3 =>
    intro wS hSw
    (try dsimp only at hSw)
    go_simp
    try with_reducible rfl
  case r3 =>
  simp only [Act.put, List.setIfInBounds_toArray, List.set_cons_zero, List.set_cons_succ]
  refine wpAnyH_take (i := 4) (oi := { dst := some 87, op := Go.Op.pick (Go.Operand.tmp 85) (Go.Operand.tmp 86) (Go.Operand.const (Go.Value.bool false)), type := 4, pos := "l03_write.go:96", after := #[{ on := 2, ground := Go.Ground.data }, { on := 3, ground := Go.Ground.data }], guard := none }) (v := ?v4) rfl (by kernel_rfl) (by kernel_rfl) (by kernel_rfl) (fun _ _ _ h => h) (Or.inl ⟨by rfl, ?h4⟩) hHeld ?r4
  case h4 =>
    intro wS hSw
    (try dsimp only at hSw)
    go_simp
    try with_reducible rfl
  case r4 =>
  simp only [Act.put, List.setIfInBounds_toArray, List.set_cons_zero, List.set_cons_succ]
  refine wpAnyH_take (i := 5) (oi := { dst := some 88, op := Go.Op.move (Go.Operand.tmp 87), type := 4, pos := "l03_write.go:96", after := #[{ on := 4, ground := Go.Ground.data }, { on := 2, ground := Go.Ground.chain }], guard := none }) (v := ?v5) rfl (by kernel_rfl) (by kernel_rfl) (by kernel_rfl) (fun _ _ _ h => h) (Or.inl ⟨by rfl, ?h5⟩) hHeld ?r5
  case h5 =>
    intro wS hSw
    (try dsimp only at hSw)
    go_simp
    try with_reducible rfl
  case r5 =>
  simp only [Act.put, List.setIfInBounds_toArray, List.set_cons_zero, List.set_cons_succ]
  refine wpAnyH_take (i := 6) (oi := { dst := some 89, op := Go.Op.move (Go.Operand.tmp 12), type := 4, pos := "l03_write.go:96", after := #[{ on := 5, ground := Go.Ground.guard }], guard := some (5, true) }) (v := ?v6) rfl (by kernel_rfl) (by kernel_rfl) (by kernel_rfl) (fun _ _ _ h => h) (Or.inl ⟨by rfl, ?h6⟩) hHeld ?r6
  case h6 =>
    intro wS hSw
    (try dsimp only at hSw)
    go_simp
    try with_reducible rfl
  case r6 =>
  simp only [Act.put, List.setIfInBounds_toArray, List.set_cons_zero, List.set_cons_succ]
  refine wpAnyH_take (i := 7) (oi := { dst := some 90, op := Go.Op.pick (Go.Operand.tmp 88) (Go.Operand.tmp 89) (Go.Operand.const (Go.Value.bool false)), type := 4, pos := "l03_write.go:96", after := #[{ on := 5, ground := Go.Ground.data }, { on := 6, ground := Go.Ground.data }], guard := none }) (v := ?v7) rfl (by kernel_rfl) (by kernel_rfl) (by kernel_rfl) (fun _ _ _ h => h) (Or.inl ⟨by rfl, ?h7⟩) hHeld ?r7
  case h7 =>
    intro wS hSw
    (try dsimp only at hSw)
    go_simp
    try with_reducible rfl
  case r7 =>
  simp only [Act.put, List.setIfInBounds_toArray, List.set_cons_zero, List.set_cons_succ]
  refine wpAnyH_take (i := 8) (oi := { dst := some 91, op := Go.Op.move (Go.Operand.tmp 90), type := 4, pos := "l03_write.go:96", after := #[{ on := 7, ground := Go.Ground.data }, { on := 5, ground := Go.Ground.chain }], guard := none }) (v := ?v8) rfl (by kernel_rfl) (by kernel_rfl) (by kernel_rfl) (fun _ _ _ h => h) (Or.inl ⟨by rfl, ?h8⟩) hHeld ?r8
  case h8 =>
    intro wS hSw
    (try dsimp only at hSw)
    go_simp
    try with_reducible rfl
  case r8 =>
  simp only [Act.put, List.setIfInBounds_toArray, List.set_cons_zero, List.set_cons_succ]
  refine wpAnyH_ready (rs := [9]) (by kernel_rfl) (by simp) ?_
  refine AllReadyH.cons (o := { dst := some 92, op := Go.Op.call { callee := Go.Callee.value (Go.Operand.func 37), args := #[Go.Operand.tmp 4], argTypes := #[48] }, type := 2, pos := "l03_write.go:96", after := #[{ on := 8, ground := Go.Ground.chain }, { on := 8, ground := Go.Ground.guard }], guard := some (8, true) }) rfl (fun K hK => ?_) AllReadyH.nil
  go_simp
  go_at_call 37
  refine (l3Fault sx 2 na _ ns nq [] _ ⟨hHeld.2.1.at 0 _ rfl, hHeld.2.1.at 1 _ rfl, hHeld.2.1.at 2 _ rfl, hHeld.2.1.at 3 _ rfl, hHeld.2.1.at 4 _ rfl⟩ (Lay.ints_reads hHeld.2.2.2.1.reads)).mono ?_
  rintro e wE ⟨rfl, hwe⟩
  subst hwe
  try go_wp2_with fail
  refine hK.out _ _ hHeld (fun hHeld => ?_)
  clear hK K
  try simp only [Act.put, List.setIfInBounds_toArray, List.set_cons_zero, List.set_cons_succ]
  refine wpAnyH_take (i := 10) (oi := { dst := some 93, op := Go.Op.binOp Go.BinOp.eql 2 (Go.Operand.tmp 92) (Go.Operand.const (Go.Value.int Go.IntKind.i64 0)) 2, type := 4, pos := "l03_write.go:96", after := #[{ on := 9, ground := Go.Ground.data }, { on := 8, ground := Go.Ground.guard }, { on := 12, ground := Go.Ground.gcOnly Go.Departure.lateStores }], guard := some (8, true) }) (v := ?v10) rfl (by kernel_rfl) (by kernel_rfl) (by kernel_rfl) (fun _ _ _ h => h) (Or.inl ⟨by rfl, ?h10⟩) hHeld ?r10
  case h10 =>
    intro wS hSw
    (try dsimp only at hSw)
    go_simp
    try with_reducible rfl
  case r10 =>
  simp only [Act.put, List.setIfInBounds_toArray, List.set_cons_zero, List.set_cons_succ]
  refine wpAnyH_take (i := 11) (oi := { dst := some 94, op := Go.Op.pick (Go.Operand.tmp 91) (Go.Operand.tmp 93) (Go.Operand.const (Go.Value.bool false)), type := 4, pos := "l03_write.go:96", after := #[{ on := 8, ground := Go.Ground.data }, { on := 10, ground := Go.Ground.data }, { on := 12, ground := Go.Ground.gcOnly Go.Departure.lateStores }], guard := none }) (v := ?v11) rfl (by kernel_rfl) (by kernel_rfl) (by kernel_rfl) (fun _ _ _ h => h) (Or.inl ⟨by rfl, ?h11⟩) hHeld ?r11
  case h11 =>
    intro wS hSw
    (try dsimp only at hSw)
    go_simp
    try with_reducible rfl
  case r11 =>
  simp only [Act.put, List.setIfInBounds_toArray, List.set_cons_zero, List.set_cons_succ]
  refine wpAnyH_ready (rs := [12]) (by kernel_rfl) (by simp) ?_
  refine AllReadyH.cons (o := { dst := none, op := Go.Op.store 27 (Go.Operand.tmp 2) (Go.Operand.tmp 83), type := 0, pos := "l03_write.go:96", after := #[{ on := 0, ground := Go.Ground.data }, { on := 9, ground := Go.Ground.chain }, { on := 0, ground := Go.Ground.phase }, { on := 1, ground := Go.Ground.textOnly Go.Departure.lateStores }, { on := 2, ground := Go.Ground.textOnly Go.Departure.lateStores }, { on := 3, ground := Go.Ground.textOnly Go.Departure.lateStores }, { on := 4, ground := Go.Ground.textOnly Go.Departure.lateStores }, { on := 5, ground := Go.Ground.textOnly Go.Departure.lateStores }, { on := 6, ground := Go.Ground.textOnly Go.Departure.lateStores }, { on := 7, ground := Go.Ground.textOnly Go.Departure.lateStores }, { on := 8, ground := Go.Ground.textOnly Go.Departure.lateStores }, { on := 9, ground := Go.Ground.textOnly Go.Departure.lateStoresUnsure }, { on := 10, ground := Go.Ground.textOnly Go.Departure.lateStores }, { on := 11, ground := Go.Ground.textOnly Go.Departure.lateStores }], guard := none }) rfl (fun K hK => ?_) AllReadyH.nil
  obtain ⟨hb9, bX9, ⟨cs9, hs9, bR9⟩, hv9, hz9⟩ := hHeld
  obtain ⟨q0, q1, q2, q3, q4, rfl⟩ : ∃ q0 q1 q2 q3 q4 : Value, cs9 = #[q0, q1, q2, q3, q4] := by
    obtain ⟨l⟩ := cs9
    match l, hs9 with
    | [q0, q1, q2, q3, q4], _ => exact ⟨q0, q1, q2, q3, q4, rfl⟩
  have e0 : wE.cell? ⟨w.heap.size, 0, none⟩ = some q0 := bR9.at 0 _ rfl
  have e1 : wE.cell? ⟨w.heap.size, 1, none⟩ = some q1 := bR9.at 1 _ rfl
  have e2 : wE.cell? ⟨w.heap.size, 2, none⟩ = some q2 := bR9.at 2 _ rfl
  have e3 : wE.cell? ⟨w.heap.size, 3, none⟩ = some q3 := bR9.at 3 _ rfl
  have e4 : wE.cell? ⟨w.heap.size, 4, none⟩ = some q4 := bR9.at 4 _ rfl
  have ef : ∀ o, wE.frozen? ⟨w.heap.size, o, none⟩ = false := bR9.soft
  have el : w.heap.size < wE.heap.size := bR9.lt
  go_simp
  try go_wp2_with fail
  refine hK.out _ _ (storeR (vs := [.int .i64 2, .int .i64 na, .slice none 0 0, .int .i64 ns, .int .i64 nq]) hb9 bX9 bR9 hv9 hz9 (by omega) rfl) (fun hHeld => ?_)
  clear hK K
  try simp only [Act.put, List.setIfInBounds_toArray, List.set_cons_zero, List.set_cons_succ]
  refine wpAnyH_take (i := 13) (oi := { dst := some 3, op := Go.Op.assign (Go.Operand.tmp 94), type := 4, pos := "l03_write.go:96", after := #[{ on := 11, ground := Go.Ground.data }, { on := 12, ground := Go.Ground.chain }, { on := 0, ground := Go.Ground.phase }, { on := 1, ground := Go.Ground.phase }, { on := 2, ground := Go.Ground.phase }, { on := 3, ground := Go.Ground.phase }, { on := 4, ground := Go.Ground.phase }, { on := 5, ground := Go.Ground.phase }, { on := 6, ground := Go.Ground.phase }, { on := 7, ground := Go.Ground.phase }, { on := 8, ground := Go.Ground.phase }, { on := 9, ground := Go.Ground.phase }, { on := 10, ground := Go.Ground.phase }, { on := 11, ground := Go.Ground.phase }, { on := 12, ground := Go.Ground.phase }], guard := none }) (v := ?v13) rfl (by kernel_rfl) (by kernel_rfl) (by kernel_rfl) (fun _ _ _ h => h) (Or.inl ⟨by rfl, ?h13⟩) hHeld ?r13
  case h13 =>
    intro wS hSw
    (try dsimp only at hSw)
    go_simp
    try with_reducible rfl
  case r13 =>
  simp only [Act.put, List.setIfInBounds_toArray, List.set_cons_zero, List.set_cons_succ]
  refine wpAnyH_done (by kernel_rfl) ?_ _
  refine NoPanic.normal ?_
  have HS := hide hHeld
  clear hHeld
  go_wp2_with fail
  refine bodyPost_ret (v := .tuple #[.agg #[.int .i64 2, .int .i64 na, .slice none 0 0, .int .i64 ns, .int .i64 nq], .bool (writeFault 2 na [] ns nq == 0)]) (by simp [results, Tryz.results28, go_sem, e0, e1, e2, e3, e4]) rfl ?_
  obtain ⟨s1, -, -, s4, s5⟩ := unhide HS
  refine ⟨[.int .i64 2, .int .i64 na, .slice none 0 0, .int .i64 ns, .int .i64 nq], rfl, ?_, s1⟩
  have fa : (Lit.int .i64 na).wf = true := wf_of_bd (by omega)
  have fb : (Lit.int .i64 ns).wf = true := wf_of_bd (by omega)
  have fc : (Lit.int .i64 nq).wf = true := wf_of_bd (by omega)
  exact readsR (x := ⟨2, na, [], ns, nq⟩) (s4.mono (by omega) s5) (by rfl) fa fb fc

end Go.Proofs.YtjofcmdlcoganaaGreatDoor

namespace Go.Proofs.YtjofcmdlcoganaaGreatDoor
open Go.RowKit

set_option maxRecDepth 100000 in
set_option maxHeartbeats 4000000 in
theorem l3Read_put0 (g cap : Nat) (a t b c : ByteArray) (w : World) (hcap : 6 ≤ cap) (h0 : w.cell? ⟨g, 0, none⟩ = some (.string ⟨#[112, 117, 116]⟩)) (h1 : w.cell? ⟨g, 1, none⟩ = some (.string a)) (h2 : w.cell? ⟨g, 2, none⟩ = some (.string t)) (h3 : w.cell? ⟨g, 3, none⟩ = some (.string ⟨#[98, 121]⟩)) (h4 : w.cell? ⟨g, 4, none⟩ = some (.string b)) (h5 : w.cell? ⟨g, 5, none⟩ = some (.string c))
    (za : a.size ≤ 1048576) (zt : t.size ≤ 1048576) (zb : b.size ≤ 1048576) (zc : c.size ≤ 1048576) (ka : (numR a.data.toList).2 = false) :
    Calls Tryz.prog 28 #[.slice (some ⟨g, 0, none⟩) 6 cap] w fun e w' => ∃ ms, ((modelP t.data.toList = some ms) ∨ (modelP t.data.toList = none ∧ vecFault ms ≠ 0)) ∧ ToldR w w' e (tailW 1 ms a.data.toList b.data.toList c.data.toList) false := by
  have bda := numR_bd a.data.toList
  have bdb := numR_bd b.data.toList
  have bdc := numR_bd c.data.toList
  have NA := hide (fun W => number a W za)
  have NB := hide (fun W => number b W zb)
  have NC := hide (fun W => number c W zc)
  have NP := hide (fun W => parseC t W zt)
  unfold tailW
  generalize (numR a.data.toList).1 = na at *
  generalize (numR b.data.toList).1 = ns at *
  generalize (numR c.data.toList).1 = nq at *
  generalize (numR a.data.toList).2 = oa at *
  generalize (numR b.data.toList).2 = ob at *
  generalize (numR c.data.toList).2 = oc at *
  subst ka
  have nb0 : Below w.heap.size w (w.alloc (.cells #[.int .i64 0, .int .i64 0, .slice none 0 0, .int .i64 0, .int .i64 0] 27)) := (Below.refl _ _).alloc (Nat.le_refl _) _
  have nb1 : Below (w.alloc (.cells #[.int .i64 0, .int .i64 0, .slice none 0 0, .int .i64 0, .int .i64 0] 27)).heap.size (w.alloc (.cells #[.int .i64 0, .int .i64 0, .slice none 0 0, .int .i64 0, .int .i64 0] 27)) ((w.alloc (.cells #[.int .i64 0, .int .i64 0, .slice none 0 0, .int .i64 0, .int .i64 0] 27)).alloc (.cells #[.int .i64 2, .int .i64 0, .slice none 0 0, .int .i64 0, .int .i64 0] 27)) := (Below.refl _ _).alloc (Nat.le_refl _) _
  have bR : Box 0 #[.int .i64 0, .int .i64 0, .slice none 0 0, .int .i64 0, .int .i64 0] 27 ((w.alloc (.cells #[.int .i64 0, .int .i64 0, .slice none 0 0, .int .i64 0, .int .i64 0] 27)).alloc (.cells #[.int .i64 2, .int .i64 0, .slice none 0 0, .int .i64 0, .int .i64 0] 27)) w.heap.size := (newBox (Nat.zero_le _)).keep nb1
  have nb := nb0.trans (nb1.mono nb0.size)
  clear nb0 nb1
  have bX : Box 0 #[.int .i64 2, .int .i64 0, .slice none 0 0, .int .i64 0, .int .i64 0] 27 ((w.alloc (.cells #[.int .i64 0, .int .i64 0, .slice none 0 0, .int .i64 0, .int .i64 0] 27)).alloc (.cells #[.int .i64 2, .int .i64 0, .slice none 0 0, .int .i64 0, .int .i64 0] 27)) (w.heap.size + 1) := by
    have := newBox (W := w.alloc (.cells #[.int .i64 0, .int .i64 0, .slice none 0 0, .int .i64 0, .int .i64 0] 27)) (cs := #[.int .i64 2, .int .i64 0, .slice none 0 0, .int .i64 0, .int .i64 0]) (T := 27) (lo := 0) (Nat.zero_le _)
    simpa using this
  have d0 := cell_keep nb h0
  have d2 := cell_keep nb h2
  have HC := hide (And.intro h1 (And.intro h3 (And.intro h4 h5)))
  clear h0 h1 h2 h3 h4 h5
  have HB := hide nb
  have HX := hide bX
  have HR := hide bR
  clear nb bX bR
  go_enter Tryz.func28, Tryz.ntmps28
  go_wp2_with fail
  have bX := unhide HX
  have bR := unhide HR
  clear HX HR d0 d2
  generalize (w.alloc (.cells #[.int .i64 0, .int .i64 0, .slice none 0 0, .int .i64 0, .int .i64 0] 27)).alloc (.cells #[.int .i64 2, .int .i64 0, .slice none 0 0, .int .i64 0, .int .i64 0] 27) = W1 at *
  have hsx : w.heap.size < w.heap.size + 1 := by omega
  generalize w.heap.size + 1 = sx at *
  refine (unhide NP _).mono ?_
  rintro e w0 ⟨v, fl, rfl, hcase, hb⟩
  obtain ⟨ms, hm, hwf, O⟩ : ∃ ms : List Int, ((modelP t.data.toList = some ms) ∨ (modelP t.data.toList = none ∧ vecFault ms ≠ 0)) ∧ (∀ z ∈ ms, (Lit.int .i64 z).wf = true) ∧ w0.ownsRow W1.heap.size 2 1 v ms.length (ms.map (Value.int .i64)) := by
    rcases hcase with ⟨-, ms, h1, h2, h3⟩ | ⟨-, h1, ms, h2, h3, h4⟩
    · exact ⟨ms, Or.inl h1, h2, h3⟩
    · exact ⟨ms, Or.inr ⟨h1, h2⟩, h3, h4⟩
  have HM := hide hm
  clear hm hcase
  have hX0 := bX.lt
  have HV0 : Hid ((Lay.sl Lay.int).LiesIn w0 [v] ms (sx + 1) w0.heap.size) := ((Lay.ownInts hwf (own_big O) O).mono (lo' := sx + 1) (by omega) (Nat.le_refl _)).lies
  obtain ⟨a2, p2, rfl⟩ := own_shape O
  replace bX := bX.keep hb
  replace bR := bR.keep hb
  replace HB := hide ((unhide HB).trans (hb.mono (unhide HB).size))
  clear hb hwf O hX0
  have x0 := bX.at 0 _ rfl
  have x1 := bX.at 1 _ rfl
  have x2 := bX.at 2 _ rfl
  have x3 := bX.at 3 _ rfl
  have x4 := bX.at 4 _ rfl
  have xf := bX.soft
  have xl := bX.lt
  have HX := hide bX
  have HR := hide bR
  clear bX bR
  simp only [List.getElem_toArray, List.getElem_cons_zero, List.getElem_cons_succ] at x0 x1 x2 x3 x4
  go_wp2_with fail
  obtain ⟨bX, bR, hB1, hV2⟩ := storeP (.int .i64 1) (.slice a2 ms.length p2) hsx (unhide HX) (unhide HR) (unhide HB) (unhide HV0)
  have HB1 := hide hB1
  have HV2 := hide hV2
  clear hB1 hV2 HX HR HB HV0 x0 x1 x2 x3 x4 xf xl
  generalize (w0.setCell ⟨sx, 0, none⟩ (.int .i64 1)).setCell ⟨sx, 2, none⟩ (.slice a2 ms.length p2) = W2 at *
  generalize ms.length = ml at *
  have HX := hide bX
  have HR := hide bR
  clear bX bR
  obtain ⟨g1, g3, g4, g5⟩ := unhide HC
  have k1 := cell_keep (unhide HB1) g1
  have k3 := cell_keep (unhide HB1) g3
  have k4 := cell_keep (unhide HB1) g4
  have k5 := cell_keep (unhide HB1) g5
  clear g1 g3 g4 g5 HC
  refine wp_region_noPanic ?_
  refine wp_region_held_drew (S := fun w' => Below W2.heap.size W2 w') (by kernel_rfl) (Below.refl _ _).drew (fun hHeld => ?_)
  have hDz0 : W2.heap.size ≤ W2.drew.heap.size := Nat.le_refl _
  generalize W2.drew = wD at hHeld hDz0 ⊢
  have hDz : W2.heap.size ≤ wD.heap.size := hDz0
  refine wpAnyH_take (i := 0) (oi := { dst := some 33, op := Go.Op.move (Go.Operand.tmp 0), type := 57, pos := "l03_write.go:85", after := #[], guard := none }) (v := ?vp0) rfl (by kernel_rfl) (by kernel_rfl) (by kernel_rfl) (fun _ _ _ h => h) (Or.inl ⟨by rfl, ?hp0⟩) hHeld ?rp0
  case hp0 =>
    intro wS hSw
    (try dsimp only at hSw)
    go_simp
    try with_reducible rfl
  case rp0 =>
  simp only [Act.put, List.setIfInBounds_toArray, List.set_cons_zero, List.set_cons_succ]
  refine wpAnyH_take (i := 1) (oi := { dst := some 34, op := Go.Op.indexAddr 57 (Go.Operand.tmp 33) (Go.Operand.const (Go.Value.int Go.IntKind.i64 1)), type := 0, pos := "l03_write.go:85", after := #[{ on := 0, ground := Go.Ground.data }], guard := none }) (v := ?vp1) rfl (by kernel_rfl) (by kernel_rfl) (by kernel_rfl) (fun _ _ _ h => h) (Or.inl ⟨by rfl, ?hp1⟩) hHeld ?rp1
  case hp1 =>
    intro wS hSw
    (try dsimp only at hSw)
    go_simp
    try with_reducible rfl
  case rp1 =>
  simp only [Act.put, List.setIfInBounds_toArray, List.set_cons_zero, List.set_cons_succ]
  refine wpAnyH_take (i := 2) (oi := { dst := some 35, op := Go.Op.load 9 (Go.Operand.tmp 34), type := 9, pos := "l03_write.go:85", after := #[{ on := 1, ground := Go.Ground.data }], guard := none }) (v := ?vp2) rfl (by kernel_rfl) (by kernel_rfl) (by kernel_rfl) (fun _ _ _ h => h) (Or.inl ⟨by rfl, ?hp2⟩) hHeld ?rp2
  case hp2 =>
    intro wS hSw
    have y1 := cell_keep hSw k1
    clear hSw
    (try dsimp only at hSw)
    go_simp
    try with_reducible rfl
  case rp2 =>
  simp only [Act.put, List.setIfInBounds_toArray, List.set_cons_zero, List.set_cons_succ]
  refine wpAnyH_take (i := 4) (oi := { dst := some 37, op := Go.Op.move (Go.Operand.tmp 0), type := 57, pos := "l03_write.go:85", after := #[], guard := none }) (v := ?vp4) rfl (by kernel_rfl) (by kernel_rfl) (by kernel_rfl) (fun _ _ _ h => h) (Or.inl ⟨by rfl, ?hp4⟩) hHeld ?rp4
  case hp4 =>
    intro wS hSw
    (try dsimp only at hSw)
    go_simp
    try with_reducible rfl
  case rp4 =>
  simp only [Act.put, List.setIfInBounds_toArray, List.set_cons_zero, List.set_cons_succ]
  refine wpAnyH_take (i := 5) (oi := { dst := some 38, op := Go.Op.slice 57 (Go.Operand.tmp 37) (some (Go.Operand.const (Go.Value.int Go.IntKind.i64 3))) none none, type := 57, pos := "l03_write.go:85", after := #[{ on := 4, ground := Go.Ground.data }], guard := none }) (v := ?vp5) rfl (by kernel_rfl) (by kernel_rfl) (by kernel_rfl) (fun _ _ _ h => h) (Or.inl ⟨by rfl, ?hp5⟩) hHeld ?rp5
  case hp5 =>
    intro wS hSw
    (try dsimp only at hSw)
    go_simp
    try with_reducible rfl
  case rp5 =>
  simp only [Act.put, List.setIfInBounds_toArray, List.set_cons_zero, List.set_cons_succ]
  refine wpAnyH_ready (rs := [3]) (by kernel_rfl) (by simp) ?_
  refine AllReadyH.cons (o := { dst := some 36, op := Go.Op.buildSlice 57 2 #[(0, Go.Operand.const (Go.Value.string { data := #[100, 114, 111, 112] })), (1, Go.Operand.tmp 35)], type := 57, pos := "l03_write.go:85", after := #[{ on := 2, ground := Go.Ground.data }], guard := none }) rfl (fun K hK => ?_) AllReadyH.nil
  go_simp
  refine hK.out _ _ (hHeld.alloc hHeld.size _) (fun hHeld => ?_)
  clear hK K
  try simp only [Act.put, List.setIfInBounds_toArray, List.set_cons_zero, List.set_cons_succ]
  refine wpAnyH_ready (rs := [6]) (by kernel_rfl) (by simp) ?_
  refine AllReadyH.cons (o := { dst := some 39, op := Go.Op.call { callee := Go.Callee.builtin Go.Builtin.append, args := #[Go.Operand.tmp 36, Go.Operand.tmp 38], argTypes := #[57, 57] }, type := 57, pos := "l03_write.go:85", after := #[{ on := 3, ground := Go.Ground.data }, { on := 5, ground := Go.Ground.data }], guard := none }) rfl (fun K hK => ?_) AllReadyH.nil
  have hne3 : ¬ cap = 3 := by omega
  rw [if_neg hne3]
  have hnews : ∀ (j : Nat) (u : Value), [Value.string ⟨#[98, 121]⟩, .string b, .string c][j]? = some u → (wD.alloc (.cells #[.string ⟨#[100, 114, 111, 112]⟩, .string a] 9)).cell? ((⟨g, 3, none⟩ : Addr).add j) = some u := by
    intro j u hj
    rcases j with _ | _ | _ | j
    · obtain rfl : Value.string ⟨#[98, 121]⟩ = u := by simpa using hj
      exact cell_keep hHeld k3
    · obtain rfl : Value.string b = u := by simpa using hj
      exact cell_keep hHeld k4
    · obtain rfl : Value.string c = u := by simpa using hj
      exact cell_keep hHeld k5
    · simp at hj
  have O6 : (wD.alloc (.cells #[.string ⟨#[100, 114, 111, 112]⟩, .string a] 9)).ownsRow wD.heap.size 9 1 (.slice (some ⟨wD.heap.size, 0, none⟩) 2 2) 2 [.string ⟨#[100, 114, 111, 112]⟩, .string a] := World.ownsRow_lit wD #[.string ⟨#[100, 114, 111, 112]⟩, .string a] 2 (Nat.le_refl _) (by unfold maxLen; omega) rfl
  refine step_append_at O6 ⟨g, 3, none⟩ 3 (cap - 3) [.string ⟨#[98, 121]⟩, .string b, .string c] rfl _ _ rfl rfl rfl rfl hnews (by simp [Value.oneCell']) (by omega) (by omega) (by simp) ?_
  rintro g7 d7 w7 O7 hb7 hl7 hz7
  refine hK.out _ _ (hHeld.trans (hb7.mono (by have := hDz; omega))) (fun hHeld => ?_)
  clear hK K
  try simp only [Act.put, List.setIfInBounds_toArray, List.set_cons_zero, List.set_cons_succ]
  refine wpAnyH_take (i := 7) (oi := { dst := some 0, op := Go.Op.assign (Go.Operand.tmp 39), type := 57, pos := "l03_write.go:85", after := #[{ on := 6, ground := Go.Ground.data }, { on := 6, ground := Go.Ground.chain }, { on := 0, ground := Go.Ground.phase }, { on := 1, ground := Go.Ground.phase }, { on := 2, ground := Go.Ground.phase }, { on := 3, ground := Go.Ground.phase }, { on := 4, ground := Go.Ground.phase }, { on := 5, ground := Go.Ground.phase }, { on := 6, ground := Go.Ground.phase }], guard := none }) (v := ?vp7) rfl (by kernel_rfl) (by kernel_rfl) (by kernel_rfl) (fun _ _ _ h => h) (Or.inl ⟨by rfl, ?hp7⟩) hHeld ?rp7
  case hp7 =>
    intro wS hSw
    (try dsimp only at hSw)
    go_simp
    try with_reducible rfl
  case rp7 =>
  simp only [Act.put, List.setIfInBounds_toArray, List.set_cons_zero]
  refine wpAnyH_done (by kernel_rfl) ?_ _
  refine NoPanic.normal ?_
  have d0 : w7.cell? ⟨g7, 0, none⟩ = some (.string ⟨#[100, 114, 111, 112]⟩) := (O7.cellAt 0 (by omega)).trans rfl
  have d1 : w7.cell? ⟨g7, 1, none⟩ = some (.string a) := (O7.cellAt 1 (by omega)).trans rfl
  have d2 : w7.cell? ⟨g7, 2, none⟩ = some (.string ⟨#[98, 121]⟩) := (O7.cellAt 2 (by omega)).trans rfl
  have d3 : w7.cell? ⟨g7, 3, none⟩ = some (.string b) := (O7.cellAt 3 (by omega)).trans rfl
  have d4 : w7.cell? ⟨g7, 4, none⟩ = some (.string c) := (O7.cellAt 4 (by omega)).trans rfl
  have bX := (unhide HX).keep hHeld
  have bR := (unhide HR).keep hHeld
  have HB := hide ((unhide HB1).trans (hHeld.mono (unhide HB1).size))
  have HVI := hide (((unhide HV2).later hHeld).mono (Nat.le_refl _) (hi' := w7.heap.size) hHeld.size)
  clear O7 O6 hb7 hHeld HX HR HB1 HV2 k1 k3 k4 k5 hnews hDz hDz0 hl7 hz7
  have HX := hide bX
  have HR := hide bR
  clear bX bR
  go_wp2_with fail
  have bX := unhide HX
  have bR := unhide HR
  clear HX HR d0 d2
  refine (unhide NA _).mono ?_
  rintro e w1 ⟨rfl, hb⟩
  replace bX := bX.keep hb
  replace bR := bR.keep hb
  replace HB := hide ((unhide HB).trans (hb.mono (unhide HB).size))
  replace HVI := hide (((unhide HVI).later hb).mono (Nat.le_refl _) (hi' := w1.heap.size) hb.size)
  replace d3 := cell_keep hb d3
  replace d4 := cell_keep hb d4
  clear hb d1
  have HX := hide bX
  have HR := hide bR
  clear bX bR
  go_wp2_with fail
  have bX := unhide HX
  have bR := unhide HR
  clear HX HR
  refine (unhide NB _).mono ?_
  rintro e w2 ⟨rfl, hb⟩
  replace bX := bX.keep hb
  replace bR := bR.keep hb
  replace HB := hide ((unhide HB).trans (hb.mono (unhide HB).size))
  replace HVI := hide (((unhide HVI).later hb).mono (Nat.le_refl _) (hi' := w2.heap.size) hb.size)
  replace d4 := cell_keep hb d4
  clear hb d3
  have HX := hide bX
  have HR := hide bR
  clear bX bR
  go_wp2_with fail
  have bX := unhide HX
  have bR := unhide HR
  clear HX HR
  refine (unhide NC _).mono ?_
  rintro e w3 ⟨rfl, hb⟩
  replace bX := bX.keep hb
  replace bR := bR.keep hb
  replace HB := hide ((unhide HB).trans (hb.mono (unhide HB).size))
  replace HVI := hide (((unhide HVI).later hb).mono (Nat.le_refl _) (hi' := w3.heap.size) hb.size)
  clear hb d4
  have x0 := bX.at 0 _ rfl
  have x1 := bX.at 1 _ rfl
  have x2 := bX.at 2 _ rfl
  have x3 := bX.at 3 _ rfl
  have x4 := bX.at 4 _ rfl
  have xf := bX.soft
  have xl := bX.lt
  have HX := hide bX
  have HR := hide bR
  clear bX bR
  simp only [List.getElem_toArray, List.getElem_cons_zero, List.getElem_cons_succ] at x0 x1 x2 x3 x4
  go_wp2_with fail
  obtain ⟨bX, bR, hB1, hV2⟩ := storeX (.int .i64 na) (.int .i64 ns) (.int .i64 nq) hsx (unhide HX) (unhide HR) (unhide HB) (unhide HVI)
  have HB1 := hide hB1
  have HV2 := hide hV2
  clear hB1 hV2
  clear HX HR HB HVI x0 x1 x2 x3 x4 xf xl
  generalize ((w3.setCell ⟨sx, 1, none⟩ (.int .i64 na)).setCell ⟨sx, 3, none⟩ (.int .i64 ns)).setCell ⟨sx, 4, none⟩ (.int .i64 nq) = W2 at *
  refine wp_region_noPanic ?_
  refine wp_region_held_drew (S := fun w' => Below w.heap.size w w' ∧ Box 0 #[.int .i64 1, .int .i64 na, .slice a2 ml p2, .int .i64 ns, .int .i64 nq] 27 w' sx ∧ (∃ cs : Array Value, cs.size = 5 ∧ Box 0 cs 27 w' w.heap.size) ∧ (Lay.sl Lay.int).LiesIn w' [.slice a2 ml p2] ms (sx + 1) W2.heap.size ∧ W2.heap.size ≤ w'.heap.size) (by kernel_rfl) ⟨(unhide HB1).drew, bX.drew, ⟨_, rfl, bR.drew⟩, unhide HV2, Nat.le_refl _⟩ (fun hHeld => ?_)
  generalize W2.drew = wD at hHeld ⊢
  refine wpAnyH_take (i := 0) (oi := { dst := some 83, op := Go.Op.load 27 (Go.Operand.tmp 4), type := 27, pos := "l03_write.go:96", after := #[], guard := none }) (v := ?v0) rfl (by kernel_rfl) (by kernel_rfl) (by kernel_rfl) (fun _ _ _ h => h) (Or.inl ⟨by rfl, ?h0⟩) hHeld ?r0
  case h0 =>
    intro wS hSw
    have y0 := hSw.2.1.at 0 _ rfl
    have y1 := hSw.2.1.at 1 _ rfl
    have y2 := hSw.2.1.at 2 _ rfl
    have y3 := hSw.2.1.at 3 _ rfl
    have y4 := hSw.2.1.at 4 _ rfl
    simp only [List.getElem_toArray, List.getElem_cons_zero, List.getElem_cons_succ] at y0 y1 y2 y3 y4
    clear hSw
    (try dsimp only at hSw)
    go_simp
    try with_reducible rfl
  case r0 =>
  simp only [Act.put, List.setIfInBounds_toArray, List.set_cons_zero, List.set_cons_succ]
  refine wpAnyH_take (i := 1) (oi := { dst := some 84, op := Go.Op.move (Go.Operand.tmp 8), type := 4, pos := "l03_write.go:96", after := #[], guard := none }) (v := ?v1) rfl (by kernel_rfl) (by kernel_rfl) (by kernel_rfl) (fun _ _ _ h => h) (Or.inl ⟨by rfl, ?h1⟩) hHeld ?r1
  case h1 =>
    intro wS hSw
    (try dsimp only at hSw)
    go_simp
    try with_reducible rfl
  case r1 =>
  simp only [Act.put, List.setIfInBounds_toArray, List.set_cons_zero, List.set_cons_succ]
  refine wpAnyH_take (i := 2) (oi := { dst := some 85, op := Go.Op.move (Go.Operand.tmp 84), type := 4, pos := "l03_write.go:96", after := #[{ on := 1, ground := Go.Ground.data }], guard := none }) (v := ?v2) rfl (by kernel_rfl) (by kernel_rfl) (by kernel_rfl) (fun _ _ _ h => h) (Or.inl ⟨by rfl, ?h2⟩) hHeld ?r2
  case h2 =>
    intro wS hSw
    (try dsimp only at hSw)
    go_simp
    try with_reducible rfl
  case r2 =>
  simp only [Act.put, List.setIfInBounds_toArray, List.set_cons_zero, List.set_cons_succ]
  refine wpAnyH_take (i := 3) (oi := { dst := some 86, op := Go.Op.move (Go.Operand.tmp 10), type := 4, pos := "l03_write.go:96", after := #[{ on := 2, ground := Go.Ground.guard }], guard := some (2, true) }) (v := undef) rfl (by kernel_rfl) (by kernel_rfl) (by kernel_rfl) (fun _ _ _ h => h) (Or.inr ⟨by rfl, rfl⟩) hHeld ?_
  simp only [Act.put, List.setIfInBounds_toArray, List.set_cons_zero, List.set_cons_succ]
  refine wpAnyH_take (i := 4) (oi := { dst := some 87, op := Go.Op.pick (Go.Operand.tmp 85) (Go.Operand.tmp 86) (Go.Operand.const (Go.Value.bool false)), type := 4, pos := "l03_write.go:96", after := #[{ on := 2, ground := Go.Ground.data }, { on := 3, ground := Go.Ground.data }], guard := none }) (v := ?v4) rfl (by kernel_rfl) (by kernel_rfl) (by kernel_rfl) (fun _ _ _ h => h) (Or.inl ⟨by rfl, ?h4⟩) hHeld ?r4
  case h4 =>
    intro wS hSw
    (try dsimp only at hSw)
    go_simp
    try with_reducible rfl
  case r4 =>
  simp only [Act.put, List.setIfInBounds_toArray, List.set_cons_zero, List.set_cons_succ]
  refine wpAnyH_take (i := 5) (oi := { dst := some 88, op := Go.Op.move (Go.Operand.tmp 87), type := 4, pos := "l03_write.go:96", after := #[{ on := 4, ground := Go.Ground.data }, { on := 2, ground := Go.Ground.chain }], guard := none }) (v := ?v5) rfl (by kernel_rfl) (by kernel_rfl) (by kernel_rfl) (fun _ _ _ h => h) (Or.inl ⟨by rfl, ?h5⟩) hHeld ?r5
  case h5 =>
    intro wS hSw
    (try dsimp only at hSw)
    go_simp
    try with_reducible rfl
  case r5 =>
  simp only [Act.put, List.setIfInBounds_toArray, List.set_cons_zero, List.set_cons_succ]
  refine wpAnyH_take (i := 6) (oi := { dst := some 89, op := Go.Op.move (Go.Operand.tmp 12), type := 4, pos := "l03_write.go:96", after := #[{ on := 5, ground := Go.Ground.guard }], guard := some (5, true) }) (v := undef) rfl (by kernel_rfl) (by kernel_rfl) (by kernel_rfl) (fun _ _ _ h => h) (Or.inr ⟨by rfl, rfl⟩) hHeld ?_
  simp only [Act.put, List.setIfInBounds_toArray, List.set_cons_zero, List.set_cons_succ]
  refine wpAnyH_take (i := 7) (oi := { dst := some 90, op := Go.Op.pick (Go.Operand.tmp 88) (Go.Operand.tmp 89) (Go.Operand.const (Go.Value.bool false)), type := 4, pos := "l03_write.go:96", after := #[{ on := 5, ground := Go.Ground.data }, { on := 6, ground := Go.Ground.data }], guard := none }) (v := ?v7) rfl (by kernel_rfl) (by kernel_rfl) (by kernel_rfl) (fun _ _ _ h => h) (Or.inl ⟨by rfl, ?h7⟩) hHeld ?r7
  case h7 =>
    intro wS hSw
    (try dsimp only at hSw)
    go_simp
    try with_reducible rfl
  case r7 =>
  simp only [Act.put, List.setIfInBounds_toArray, List.set_cons_zero, List.set_cons_succ]
  refine wpAnyH_take (i := 8) (oi := { dst := some 91, op := Go.Op.move (Go.Operand.tmp 90), type := 4, pos := "l03_write.go:96", after := #[{ on := 7, ground := Go.Ground.data }, { on := 5, ground := Go.Ground.chain }], guard := none }) (v := ?v8) rfl (by kernel_rfl) (by kernel_rfl) (by kernel_rfl) (fun _ _ _ h => h) (Or.inl ⟨by rfl, ?h8⟩) hHeld ?r8
  case h8 =>
    intro wS hSw
    (try dsimp only at hSw)
    go_simp
    try with_reducible rfl
  case r8 =>
  simp only [Act.put, List.setIfInBounds_toArray, List.set_cons_zero, List.set_cons_succ]
  refine wpAnyH_take (i := 9) (oi := { dst := some 92, op := Go.Op.call { callee := Go.Callee.value (Go.Operand.func 37), args := #[Go.Operand.tmp 4], argTypes := #[48] }, type := 2, pos := "l03_write.go:96", after := #[{ on := 8, ground := Go.Ground.chain }, { on := 8, ground := Go.Ground.guard }], guard := some (8, true) }) (v := undef) rfl (by kernel_rfl) (by kernel_rfl) (by kernel_rfl) (fun _ _ _ h => h) (Or.inr ⟨by rfl, rfl⟩) hHeld ?_
  simp only [Act.put, List.setIfInBounds_toArray, List.set_cons_zero, List.set_cons_succ]
  refine wpAnyH_take (i := 10) (oi := { dst := some 93, op := Go.Op.binOp Go.BinOp.eql 2 (Go.Operand.tmp 92) (Go.Operand.const (Go.Value.int Go.IntKind.i64 0)) 2, type := 4, pos := "l03_write.go:96", after := #[{ on := 9, ground := Go.Ground.data }, { on := 8, ground := Go.Ground.guard }, { on := 12, ground := Go.Ground.gcOnly Go.Departure.lateStores }], guard := some (8, true) }) (v := undef) rfl (by kernel_rfl) (by kernel_rfl) (by kernel_rfl) (fun _ _ _ h => h) (Or.inr ⟨by rfl, rfl⟩) hHeld ?_
  simp only [Act.put, List.setIfInBounds_toArray, List.set_cons_zero, List.set_cons_succ]
  refine wpAnyH_take (i := 11) (oi := { dst := some 94, op := Go.Op.pick (Go.Operand.tmp 91) (Go.Operand.tmp 93) (Go.Operand.const (Go.Value.bool false)), type := 4, pos := "l03_write.go:96", after := #[{ on := 8, ground := Go.Ground.data }, { on := 10, ground := Go.Ground.data }, { on := 12, ground := Go.Ground.gcOnly Go.Departure.lateStores }], guard := none }) (v := ?v11) rfl (by kernel_rfl) (by kernel_rfl) (by kernel_rfl) (fun _ _ _ h => h) (Or.inl ⟨by rfl, ?h11⟩) hHeld ?r11
  case h11 =>
    intro wS hSw
    (try dsimp only at hSw)
    go_simp
    try with_reducible rfl
  case r11 =>
  simp only [Act.put, List.setIfInBounds_toArray, List.set_cons_zero, List.set_cons_succ]
  refine wpAnyH_ready (rs := [12]) (by kernel_rfl) (by simp) ?_
  refine AllReadyH.cons (o := { dst := none, op := Go.Op.store 27 (Go.Operand.tmp 2) (Go.Operand.tmp 83), type := 0, pos := "l03_write.go:96", after := #[{ on := 0, ground := Go.Ground.data }, { on := 9, ground := Go.Ground.chain }, { on := 0, ground := Go.Ground.phase }, { on := 1, ground := Go.Ground.textOnly Go.Departure.lateStores }, { on := 2, ground := Go.Ground.textOnly Go.Departure.lateStores }, { on := 3, ground := Go.Ground.textOnly Go.Departure.lateStores }, { on := 4, ground := Go.Ground.textOnly Go.Departure.lateStores }, { on := 5, ground := Go.Ground.textOnly Go.Departure.lateStores }, { on := 6, ground := Go.Ground.textOnly Go.Departure.lateStores }, { on := 7, ground := Go.Ground.textOnly Go.Departure.lateStores }, { on := 8, ground := Go.Ground.textOnly Go.Departure.lateStores }, { on := 9, ground := Go.Ground.textOnly Go.Departure.lateStoresUnsure }, { on := 10, ground := Go.Ground.textOnly Go.Departure.lateStores }, { on := 11, ground := Go.Ground.textOnly Go.Departure.lateStores }], guard := none }) rfl (fun K hK => ?_) AllReadyH.nil
  obtain ⟨hb9, bX9, ⟨cs9, hs9, bR9⟩, hv9, hz9⟩ := hHeld
  obtain ⟨q0, q1, q2, q3, q4, rfl⟩ : ∃ q0 q1 q2 q3 q4 : Value, cs9 = #[q0, q1, q2, q3, q4] := by
    obtain ⟨l⟩ := cs9
    match l, hs9 with
    | [q0, q1, q2, q3, q4], _ => exact ⟨q0, q1, q2, q3, q4, rfl⟩
  have e0 : wD.cell? ⟨w.heap.size, 0, none⟩ = some q0 := bR9.at 0 _ rfl
  have e1 : wD.cell? ⟨w.heap.size, 1, none⟩ = some q1 := bR9.at 1 _ rfl
  have e2 : wD.cell? ⟨w.heap.size, 2, none⟩ = some q2 := bR9.at 2 _ rfl
  have e3 : wD.cell? ⟨w.heap.size, 3, none⟩ = some q3 := bR9.at 3 _ rfl
  have e4 : wD.cell? ⟨w.heap.size, 4, none⟩ = some q4 := bR9.at 4 _ rfl
  have ef : ∀ o, wD.frozen? ⟨w.heap.size, o, none⟩ = false := bR9.soft
  have el : w.heap.size < wD.heap.size := bR9.lt
  go_simp
  try go_wp2_with fail
  refine hK.out _ _ (storeR (vs := [.int .i64 1, .int .i64 na, .slice a2 ml p2, .int .i64 ns, .int .i64 nq]) hb9 bX9 bR9 hv9 hz9 (by omega) rfl) (fun hHeld => ?_)
  clear hK K
  try simp only [Act.put, List.setIfInBounds_toArray, List.set_cons_zero, List.set_cons_succ]
  refine wpAnyH_take (i := 13) (oi := { dst := some 3, op := Go.Op.assign (Go.Operand.tmp 94), type := 4, pos := "l03_write.go:96", after := #[{ on := 11, ground := Go.Ground.data }, { on := 12, ground := Go.Ground.chain }, { on := 0, ground := Go.Ground.phase }, { on := 1, ground := Go.Ground.phase }, { on := 2, ground := Go.Ground.phase }, { on := 3, ground := Go.Ground.phase }, { on := 4, ground := Go.Ground.phase }, { on := 5, ground := Go.Ground.phase }, { on := 6, ground := Go.Ground.phase }, { on := 7, ground := Go.Ground.phase }, { on := 8, ground := Go.Ground.phase }, { on := 9, ground := Go.Ground.phase }, { on := 10, ground := Go.Ground.phase }, { on := 11, ground := Go.Ground.phase }, { on := 12, ground := Go.Ground.phase }], guard := none }) (v := ?v13) rfl (by kernel_rfl) (by kernel_rfl) (by kernel_rfl) (fun _ _ _ h => h) (Or.inl ⟨by rfl, ?h13⟩) hHeld ?r13
  case h13 =>
    intro wS hSw
    (try dsimp only at hSw)
    go_simp
    try with_reducible rfl
  case r13 =>
  simp only [Act.put, List.setIfInBounds_toArray, List.set_cons_zero, List.set_cons_succ]
  refine wpAnyH_done (by kernel_rfl) ?_ _
  refine NoPanic.normal ?_
  have HS := hide hHeld
  clear hHeld
  go_wp2_with fail
  refine bodyPost_ret (v := .tuple #[.agg #[.int .i64 1, .int .i64 na, .slice a2 ml p2, .int .i64 ns, .int .i64 nq], .bool false]) (by simp [results, Tryz.results28, go_sem, e0, e1, e2, e3, e4]) rfl ?_
  obtain ⟨s1, -, -, s4, s5⟩ := unhide HS
  refine ⟨ms, unhide HM, ?_⟩
  refine ⟨[.int .i64 1, .int .i64 na, .slice a2 ml p2, .int .i64 ns, .int .i64 nq], rfl, ?_, s1⟩
  have fa : (Lit.int .i64 na).wf = true := wf_of_bd (by omega)
  have fb : (Lit.int .i64 ns).wf = true := wf_of_bd (by omega)
  have fc : (Lit.int .i64 nq).wf = true := wf_of_bd (by omega)
  exact readsR (x := ⟨1, na, ms, ns, nq⟩) (s4.mono (by omega) s5) (by rfl) fa fb fc

end Go.Proofs.YtjofcmdlcoganaaGreatDoor

namespace Go.Proofs.YtjofcmdlcoganaaGreatDoor
open Go.RowKit

set_option maxRecDepth 100000 in
set_option maxHeartbeats 4000000 in
theorem l3Read_put1 (g cap : Nat) (a t b c : ByteArray) (w : World) (hcap : 6 ≤ cap) (h0 : w.cell? ⟨g, 0, none⟩ = some (.string ⟨#[112, 117, 116]⟩)) (h1 : w.cell? ⟨g, 1, none⟩ = some (.string a)) (h2 : w.cell? ⟨g, 2, none⟩ = some (.string t)) (h3 : w.cell? ⟨g, 3, none⟩ = some (.string ⟨#[98, 121]⟩)) (h4 : w.cell? ⟨g, 4, none⟩ = some (.string b)) (h5 : w.cell? ⟨g, 5, none⟩ = some (.string c))
    (za : a.size ≤ 1048576) (zt : t.size ≤ 1048576) (zb : b.size ≤ 1048576) (zc : c.size ≤ 1048576) (ka : (numR a.data.toList).2 = true) (kb : (numR b.data.toList).2 = false) :
    Calls Tryz.prog 28 #[.slice (some ⟨g, 0, none⟩) 6 cap] w fun e w' => ∃ ms, ((modelP t.data.toList = some ms) ∨ (modelP t.data.toList = none ∧ vecFault ms ≠ 0)) ∧ ToldR w w' e (tailW 1 ms a.data.toList b.data.toList c.data.toList) false := by
  have bda := numR_bd a.data.toList
  have bdb := numR_bd b.data.toList
  have bdc := numR_bd c.data.toList
  have NA := hide (fun W => number a W za)
  have NB := hide (fun W => number b W zb)
  have NC := hide (fun W => number c W zc)
  have NP := hide (fun W => parseC t W zt)
  unfold tailW
  generalize (numR a.data.toList).1 = na at *
  generalize (numR b.data.toList).1 = ns at *
  generalize (numR c.data.toList).1 = nq at *
  generalize (numR a.data.toList).2 = oa at *
  generalize (numR b.data.toList).2 = ob at *
  generalize (numR c.data.toList).2 = oc at *
  subst ka kb
  have nb0 : Below w.heap.size w (w.alloc (.cells #[.int .i64 0, .int .i64 0, .slice none 0 0, .int .i64 0, .int .i64 0] 27)) := (Below.refl _ _).alloc (Nat.le_refl _) _
  have nb1 : Below (w.alloc (.cells #[.int .i64 0, .int .i64 0, .slice none 0 0, .int .i64 0, .int .i64 0] 27)).heap.size (w.alloc (.cells #[.int .i64 0, .int .i64 0, .slice none 0 0, .int .i64 0, .int .i64 0] 27)) ((w.alloc (.cells #[.int .i64 0, .int .i64 0, .slice none 0 0, .int .i64 0, .int .i64 0] 27)).alloc (.cells #[.int .i64 2, .int .i64 0, .slice none 0 0, .int .i64 0, .int .i64 0] 27)) := (Below.refl _ _).alloc (Nat.le_refl _) _
  have bR : Box 0 #[.int .i64 0, .int .i64 0, .slice none 0 0, .int .i64 0, .int .i64 0] 27 ((w.alloc (.cells #[.int .i64 0, .int .i64 0, .slice none 0 0, .int .i64 0, .int .i64 0] 27)).alloc (.cells #[.int .i64 2, .int .i64 0, .slice none 0 0, .int .i64 0, .int .i64 0] 27)) w.heap.size := (newBox (Nat.zero_le _)).keep nb1
  have nb := nb0.trans (nb1.mono nb0.size)
  clear nb0 nb1
  have bX : Box 0 #[.int .i64 2, .int .i64 0, .slice none 0 0, .int .i64 0, .int .i64 0] 27 ((w.alloc (.cells #[.int .i64 0, .int .i64 0, .slice none 0 0, .int .i64 0, .int .i64 0] 27)).alloc (.cells #[.int .i64 2, .int .i64 0, .slice none 0 0, .int .i64 0, .int .i64 0] 27)) (w.heap.size + 1) := by
    have := newBox (W := w.alloc (.cells #[.int .i64 0, .int .i64 0, .slice none 0 0, .int .i64 0, .int .i64 0] 27)) (cs := #[.int .i64 2, .int .i64 0, .slice none 0 0, .int .i64 0, .int .i64 0]) (T := 27) (lo := 0) (Nat.zero_le _)
    simpa using this
  have d0 := cell_keep nb h0
  have d2 := cell_keep nb h2
  have HC := hide (And.intro h1 (And.intro h3 (And.intro h4 h5)))
  clear h0 h1 h2 h3 h4 h5
  have HB := hide nb
  have HX := hide bX
  have HR := hide bR
  clear nb bX bR
  go_enter Tryz.func28, Tryz.ntmps28
  go_wp2_with fail
  have bX := unhide HX
  have bR := unhide HR
  clear HX HR d0 d2
  generalize (w.alloc (.cells #[.int .i64 0, .int .i64 0, .slice none 0 0, .int .i64 0, .int .i64 0] 27)).alloc (.cells #[.int .i64 2, .int .i64 0, .slice none 0 0, .int .i64 0, .int .i64 0] 27) = W1 at *
  have hsx : w.heap.size < w.heap.size + 1 := by omega
  generalize w.heap.size + 1 = sx at *
  refine (unhide NP _).mono ?_
  rintro e w0 ⟨v, fl, rfl, hcase, hb⟩
  obtain ⟨ms, hm, hwf, O⟩ : ∃ ms : List Int, ((modelP t.data.toList = some ms) ∨ (modelP t.data.toList = none ∧ vecFault ms ≠ 0)) ∧ (∀ z ∈ ms, (Lit.int .i64 z).wf = true) ∧ w0.ownsRow W1.heap.size 2 1 v ms.length (ms.map (Value.int .i64)) := by
    rcases hcase with ⟨-, ms, h1, h2, h3⟩ | ⟨-, h1, ms, h2, h3, h4⟩
    · exact ⟨ms, Or.inl h1, h2, h3⟩
    · exact ⟨ms, Or.inr ⟨h1, h2⟩, h3, h4⟩
  have HM := hide hm
  clear hm hcase
  have hX0 := bX.lt
  have HV0 : Hid ((Lay.sl Lay.int).LiesIn w0 [v] ms (sx + 1) w0.heap.size) := ((Lay.ownInts hwf (own_big O) O).mono (lo' := sx + 1) (by omega) (Nat.le_refl _)).lies
  obtain ⟨a2, p2, rfl⟩ := own_shape O
  replace bX := bX.keep hb
  replace bR := bR.keep hb
  replace HB := hide ((unhide HB).trans (hb.mono (unhide HB).size))
  clear hb hwf O hX0
  have x0 := bX.at 0 _ rfl
  have x1 := bX.at 1 _ rfl
  have x2 := bX.at 2 _ rfl
  have x3 := bX.at 3 _ rfl
  have x4 := bX.at 4 _ rfl
  have xf := bX.soft
  have xl := bX.lt
  have HX := hide bX
  have HR := hide bR
  clear bX bR
  simp only [List.getElem_toArray, List.getElem_cons_zero, List.getElem_cons_succ] at x0 x1 x2 x3 x4
  go_wp2_with fail
  obtain ⟨bX, bR, hB1, hV2⟩ := storeP (.int .i64 1) (.slice a2 ms.length p2) hsx (unhide HX) (unhide HR) (unhide HB) (unhide HV0)
  have HB1 := hide hB1
  have HV2 := hide hV2
  clear hB1 hV2 HX HR HB HV0 x0 x1 x2 x3 x4 xf xl
  generalize (w0.setCell ⟨sx, 0, none⟩ (.int .i64 1)).setCell ⟨sx, 2, none⟩ (.slice a2 ms.length p2) = W2 at *
  generalize ms.length = ml at *
  have HX := hide bX
  have HR := hide bR
  clear bX bR
  obtain ⟨g1, g3, g4, g5⟩ := unhide HC
  have k1 := cell_keep (unhide HB1) g1
  have k3 := cell_keep (unhide HB1) g3
  have k4 := cell_keep (unhide HB1) g4
  have k5 := cell_keep (unhide HB1) g5
  clear g1 g3 g4 g5 HC
  refine wp_region_noPanic ?_
  refine wp_region_held_drew (S := fun w' => Below W2.heap.size W2 w') (by kernel_rfl) (Below.refl _ _).drew (fun hHeld => ?_)
  have hDz0 : W2.heap.size ≤ W2.drew.heap.size := Nat.le_refl _
  generalize W2.drew = wD at hHeld hDz0 ⊢
  have hDz : W2.heap.size ≤ wD.heap.size := hDz0
  refine wpAnyH_take (i := 0) (oi := { dst := some 33, op := Go.Op.move (Go.Operand.tmp 0), type := 57, pos := "l03_write.go:85", after := #[], guard := none }) (v := ?vp0) rfl (by kernel_rfl) (by kernel_rfl) (by kernel_rfl) (fun _ _ _ h => h) (Or.inl ⟨by rfl, ?hp0⟩) hHeld ?rp0
  case hp0 =>
    intro wS hSw
    (try dsimp only at hSw)
    go_simp
    try with_reducible rfl
  case rp0 =>
  simp only [Act.put, List.setIfInBounds_toArray, List.set_cons_zero, List.set_cons_succ]
  refine wpAnyH_take (i := 1) (oi := { dst := some 34, op := Go.Op.indexAddr 57 (Go.Operand.tmp 33) (Go.Operand.const (Go.Value.int Go.IntKind.i64 1)), type := 0, pos := "l03_write.go:85", after := #[{ on := 0, ground := Go.Ground.data }], guard := none }) (v := ?vp1) rfl (by kernel_rfl) (by kernel_rfl) (by kernel_rfl) (fun _ _ _ h => h) (Or.inl ⟨by rfl, ?hp1⟩) hHeld ?rp1
  case hp1 =>
    intro wS hSw
    (try dsimp only at hSw)
    go_simp
    try with_reducible rfl
  case rp1 =>
  simp only [Act.put, List.setIfInBounds_toArray, List.set_cons_zero, List.set_cons_succ]
  refine wpAnyH_take (i := 2) (oi := { dst := some 35, op := Go.Op.load 9 (Go.Operand.tmp 34), type := 9, pos := "l03_write.go:85", after := #[{ on := 1, ground := Go.Ground.data }], guard := none }) (v := ?vp2) rfl (by kernel_rfl) (by kernel_rfl) (by kernel_rfl) (fun _ _ _ h => h) (Or.inl ⟨by rfl, ?hp2⟩) hHeld ?rp2
  case hp2 =>
    intro wS hSw
    have y1 := cell_keep hSw k1
    clear hSw
    (try dsimp only at hSw)
    go_simp
    try with_reducible rfl
  case rp2 =>
  simp only [Act.put, List.setIfInBounds_toArray, List.set_cons_zero, List.set_cons_succ]
  refine wpAnyH_take (i := 4) (oi := { dst := some 37, op := Go.Op.move (Go.Operand.tmp 0), type := 57, pos := "l03_write.go:85", after := #[], guard := none }) (v := ?vp4) rfl (by kernel_rfl) (by kernel_rfl) (by kernel_rfl) (fun _ _ _ h => h) (Or.inl ⟨by rfl, ?hp4⟩) hHeld ?rp4
  case hp4 =>
    intro wS hSw
    (try dsimp only at hSw)
    go_simp
    try with_reducible rfl
  case rp4 =>
  simp only [Act.put, List.setIfInBounds_toArray, List.set_cons_zero, List.set_cons_succ]
  refine wpAnyH_take (i := 5) (oi := { dst := some 38, op := Go.Op.slice 57 (Go.Operand.tmp 37) (some (Go.Operand.const (Go.Value.int Go.IntKind.i64 3))) none none, type := 57, pos := "l03_write.go:85", after := #[{ on := 4, ground := Go.Ground.data }], guard := none }) (v := ?vp5) rfl (by kernel_rfl) (by kernel_rfl) (by kernel_rfl) (fun _ _ _ h => h) (Or.inl ⟨by rfl, ?hp5⟩) hHeld ?rp5
  case hp5 =>
    intro wS hSw
    (try dsimp only at hSw)
    go_simp
    try with_reducible rfl
  case rp5 =>
  simp only [Act.put, List.setIfInBounds_toArray, List.set_cons_zero, List.set_cons_succ]
  refine wpAnyH_ready (rs := [3]) (by kernel_rfl) (by simp) ?_
  refine AllReadyH.cons (o := { dst := some 36, op := Go.Op.buildSlice 57 2 #[(0, Go.Operand.const (Go.Value.string { data := #[100, 114, 111, 112] })), (1, Go.Operand.tmp 35)], type := 57, pos := "l03_write.go:85", after := #[{ on := 2, ground := Go.Ground.data }], guard := none }) rfl (fun K hK => ?_) AllReadyH.nil
  go_simp
  refine hK.out _ _ (hHeld.alloc hHeld.size _) (fun hHeld => ?_)
  clear hK K
  try simp only [Act.put, List.setIfInBounds_toArray, List.set_cons_zero, List.set_cons_succ]
  refine wpAnyH_ready (rs := [6]) (by kernel_rfl) (by simp) ?_
  refine AllReadyH.cons (o := { dst := some 39, op := Go.Op.call { callee := Go.Callee.builtin Go.Builtin.append, args := #[Go.Operand.tmp 36, Go.Operand.tmp 38], argTypes := #[57, 57] }, type := 57, pos := "l03_write.go:85", after := #[{ on := 3, ground := Go.Ground.data }, { on := 5, ground := Go.Ground.data }], guard := none }) rfl (fun K hK => ?_) AllReadyH.nil
  have hne3 : ¬ cap = 3 := by omega
  rw [if_neg hne3]
  have hnews : ∀ (j : Nat) (u : Value), [Value.string ⟨#[98, 121]⟩, .string b, .string c][j]? = some u → (wD.alloc (.cells #[.string ⟨#[100, 114, 111, 112]⟩, .string a] 9)).cell? ((⟨g, 3, none⟩ : Addr).add j) = some u := by
    intro j u hj
    rcases j with _ | _ | _ | j
    · obtain rfl : Value.string ⟨#[98, 121]⟩ = u := by simpa using hj
      exact cell_keep hHeld k3
    · obtain rfl : Value.string b = u := by simpa using hj
      exact cell_keep hHeld k4
    · obtain rfl : Value.string c = u := by simpa using hj
      exact cell_keep hHeld k5
    · simp at hj
  have O6 : (wD.alloc (.cells #[.string ⟨#[100, 114, 111, 112]⟩, .string a] 9)).ownsRow wD.heap.size 9 1 (.slice (some ⟨wD.heap.size, 0, none⟩) 2 2) 2 [.string ⟨#[100, 114, 111, 112]⟩, .string a] := World.ownsRow_lit wD #[.string ⟨#[100, 114, 111, 112]⟩, .string a] 2 (Nat.le_refl _) (by unfold maxLen; omega) rfl
  refine step_append_at O6 ⟨g, 3, none⟩ 3 (cap - 3) [.string ⟨#[98, 121]⟩, .string b, .string c] rfl _ _ rfl rfl rfl rfl hnews (by simp [Value.oneCell']) (by omega) (by omega) (by simp) ?_
  rintro g7 d7 w7 O7 hb7 hl7 hz7
  refine hK.out _ _ (hHeld.trans (hb7.mono (by have := hDz; omega))) (fun hHeld => ?_)
  clear hK K
  try simp only [Act.put, List.setIfInBounds_toArray, List.set_cons_zero, List.set_cons_succ]
  refine wpAnyH_take (i := 7) (oi := { dst := some 0, op := Go.Op.assign (Go.Operand.tmp 39), type := 57, pos := "l03_write.go:85", after := #[{ on := 6, ground := Go.Ground.data }, { on := 6, ground := Go.Ground.chain }, { on := 0, ground := Go.Ground.phase }, { on := 1, ground := Go.Ground.phase }, { on := 2, ground := Go.Ground.phase }, { on := 3, ground := Go.Ground.phase }, { on := 4, ground := Go.Ground.phase }, { on := 5, ground := Go.Ground.phase }, { on := 6, ground := Go.Ground.phase }], guard := none }) (v := ?vp7) rfl (by kernel_rfl) (by kernel_rfl) (by kernel_rfl) (fun _ _ _ h => h) (Or.inl ⟨by rfl, ?hp7⟩) hHeld ?rp7
  case hp7 =>
    intro wS hSw
    (try dsimp only at hSw)
    go_simp
    try with_reducible rfl
  case rp7 =>
  simp only [Act.put, List.setIfInBounds_toArray, List.set_cons_zero]
  refine wpAnyH_done (by kernel_rfl) ?_ _
  refine NoPanic.normal ?_
  have d0 : w7.cell? ⟨g7, 0, none⟩ = some (.string ⟨#[100, 114, 111, 112]⟩) := (O7.cellAt 0 (by omega)).trans rfl
  have d1 : w7.cell? ⟨g7, 1, none⟩ = some (.string a) := (O7.cellAt 1 (by omega)).trans rfl
  have d2 : w7.cell? ⟨g7, 2, none⟩ = some (.string ⟨#[98, 121]⟩) := (O7.cellAt 2 (by omega)).trans rfl
  have d3 : w7.cell? ⟨g7, 3, none⟩ = some (.string b) := (O7.cellAt 3 (by omega)).trans rfl
  have d4 : w7.cell? ⟨g7, 4, none⟩ = some (.string c) := (O7.cellAt 4 (by omega)).trans rfl
  have bX := (unhide HX).keep hHeld
  have bR := (unhide HR).keep hHeld
  have HB := hide ((unhide HB1).trans (hHeld.mono (unhide HB1).size))
  have HVI := hide (((unhide HV2).later hHeld).mono (Nat.le_refl _) (hi' := w7.heap.size) hHeld.size)
  clear O7 O6 hb7 hHeld HX HR HB1 HV2 k1 k3 k4 k5 hnews hDz hDz0 hl7 hz7
  have HX := hide bX
  have HR := hide bR
  clear bX bR
  go_wp2_with fail
  have bX := unhide HX
  have bR := unhide HR
  clear HX HR d0 d2
  refine (unhide NA _).mono ?_
  rintro e w1 ⟨rfl, hb⟩
  replace bX := bX.keep hb
  replace bR := bR.keep hb
  replace HB := hide ((unhide HB).trans (hb.mono (unhide HB).size))
  replace HVI := hide (((unhide HVI).later hb).mono (Nat.le_refl _) (hi' := w1.heap.size) hb.size)
  replace d3 := cell_keep hb d3
  replace d4 := cell_keep hb d4
  clear hb d1
  have HX := hide bX
  have HR := hide bR
  clear bX bR
  go_wp2_with fail
  have bX := unhide HX
  have bR := unhide HR
  clear HX HR
  refine (unhide NB _).mono ?_
  rintro e w2 ⟨rfl, hb⟩
  replace bX := bX.keep hb
  replace bR := bR.keep hb
  replace HB := hide ((unhide HB).trans (hb.mono (unhide HB).size))
  replace HVI := hide (((unhide HVI).later hb).mono (Nat.le_refl _) (hi' := w2.heap.size) hb.size)
  replace d4 := cell_keep hb d4
  clear hb d3
  have HX := hide bX
  have HR := hide bR
  clear bX bR
  go_wp2_with fail
  have bX := unhide HX
  have bR := unhide HR
  clear HX HR
  refine (unhide NC _).mono ?_
  rintro e w3 ⟨rfl, hb⟩
  replace bX := bX.keep hb
  replace bR := bR.keep hb
  replace HB := hide ((unhide HB).trans (hb.mono (unhide HB).size))
  replace HVI := hide (((unhide HVI).later hb).mono (Nat.le_refl _) (hi' := w3.heap.size) hb.size)
  clear hb d4
  have x0 := bX.at 0 _ rfl
  have x1 := bX.at 1 _ rfl
  have x2 := bX.at 2 _ rfl
  have x3 := bX.at 3 _ rfl
  have x4 := bX.at 4 _ rfl
  have xf := bX.soft
  have xl := bX.lt
  have HX := hide bX
  have HR := hide bR
  clear bX bR
  simp only [List.getElem_toArray, List.getElem_cons_zero, List.getElem_cons_succ] at x0 x1 x2 x3 x4
  go_wp2_with fail
  obtain ⟨bX, bR, hB1, hV2⟩ := storeX (.int .i64 na) (.int .i64 ns) (.int .i64 nq) hsx (unhide HX) (unhide HR) (unhide HB) (unhide HVI)
  have HB1 := hide hB1
  have HV2 := hide hV2
  clear hB1 hV2
  clear HX HR HB HVI x0 x1 x2 x3 x4 xf xl
  generalize ((w3.setCell ⟨sx, 1, none⟩ (.int .i64 na)).setCell ⟨sx, 3, none⟩ (.int .i64 ns)).setCell ⟨sx, 4, none⟩ (.int .i64 nq) = W2 at *
  refine wp_region_noPanic ?_
  refine wp_region_held_drew (S := fun w' => Below w.heap.size w w' ∧ Box 0 #[.int .i64 1, .int .i64 na, .slice a2 ml p2, .int .i64 ns, .int .i64 nq] 27 w' sx ∧ (∃ cs : Array Value, cs.size = 5 ∧ Box 0 cs 27 w' w.heap.size) ∧ (Lay.sl Lay.int).LiesIn w' [.slice a2 ml p2] ms (sx + 1) W2.heap.size ∧ W2.heap.size ≤ w'.heap.size) (by kernel_rfl) ⟨(unhide HB1).drew, bX.drew, ⟨_, rfl, bR.drew⟩, unhide HV2, Nat.le_refl _⟩ (fun hHeld => ?_)
  generalize W2.drew = wD at hHeld ⊢
  refine wpAnyH_take (i := 0) (oi := { dst := some 83, op := Go.Op.load 27 (Go.Operand.tmp 4), type := 27, pos := "l03_write.go:96", after := #[], guard := none }) (v := ?v0) rfl (by kernel_rfl) (by kernel_rfl) (by kernel_rfl) (fun _ _ _ h => h) (Or.inl ⟨by rfl, ?h0⟩) hHeld ?r0
  case h0 =>
    intro wS hSw
    have y0 := hSw.2.1.at 0 _ rfl
    have y1 := hSw.2.1.at 1 _ rfl
    have y2 := hSw.2.1.at 2 _ rfl
    have y3 := hSw.2.1.at 3 _ rfl
    have y4 := hSw.2.1.at 4 _ rfl
    simp only [List.getElem_toArray, List.getElem_cons_zero, List.getElem_cons_succ] at y0 y1 y2 y3 y4
    clear hSw
    (try dsimp only at hSw)
    go_simp
    try with_reducible rfl
  case r0 =>
  simp only [Act.put, List.setIfInBounds_toArray, List.set_cons_zero, List.set_cons_succ]
  refine wpAnyH_take (i := 1) (oi := { dst := some 84, op := Go.Op.move (Go.Operand.tmp 8), type := 4, pos := "l03_write.go:96", after := #[], guard := none }) (v := ?v1) rfl (by kernel_rfl) (by kernel_rfl) (by kernel_rfl) (fun _ _ _ h => h) (Or.inl ⟨by rfl, ?h1⟩) hHeld ?r1
  case h1 =>
    intro wS hSw
    (try dsimp only at hSw)
    go_simp
    try with_reducible rfl
  case r1 =>
  simp only [Act.put, List.setIfInBounds_toArray, List.set_cons_zero, List.set_cons_succ]
  refine wpAnyH_take (i := 2) (oi := { dst := some 85, op := Go.Op.move (Go.Operand.tmp 84), type := 4, pos := "l03_write.go:96", after := #[{ on := 1, ground := Go.Ground.data }], guard := none }) (v := ?v2) rfl (by kernel_rfl) (by kernel_rfl) (by kernel_rfl) (fun _ _ _ h => h) (Or.inl ⟨by rfl, ?h2⟩) hHeld ?r2
  case h2 =>
    intro wS hSw
    (try dsimp only at hSw)
    go_simp
    try with_reducible rfl
  case r2 =>
  simp only [Act.put, List.setIfInBounds_toArray, List.set_cons_zero, List.set_cons_succ]
  refine wpAnyH_take (i := 3) (oi := { dst := some 86, op := Go.Op.move (Go.Operand.tmp 10), type := 4, pos := "l03_write.go:96", after := #[{ on := 2, ground := Go.Ground.guard }], guard := some (2, true) }) (v := ?v3) rfl (by kernel_rfl) (by kernel_rfl) (by kernel_rfl) (fun _ _ _ h => h) (Or.inl ⟨by rfl, ?h3⟩) hHeld ?r3
  case h3 =>
    intro wS hSw
    (try dsimp only at hSw)
    go_simp
    try with_reducible rfl
  case r3 =>
  simp only [Act.put, List.setIfInBounds_toArray, List.set_cons_zero, List.set_cons_succ]
  refine wpAnyH_take (i := 4) (oi := { dst := some 87, op := Go.Op.pick (Go.Operand.tmp 85) (Go.Operand.tmp 86) (Go.Operand.const (Go.Value.bool false)), type := 4, pos := "l03_write.go:96", after := #[{ on := 2, ground := Go.Ground.data }, { on := 3, ground := Go.Ground.data }], guard := none }) (v := ?v4) rfl (by kernel_rfl) (by kernel_rfl) (by kernel_rfl) (fun _ _ _ h => h) (Or.inl ⟨by rfl, ?h4⟩) hHeld ?r4
  case h4 =>
    intro wS hSw
    (try dsimp only at hSw)
    go_simp
    try with_reducible rfl
  case r4 =>
  simp only [Act.put, List.setIfInBounds_toArray, List.set_cons_zero, List.set_cons_succ]
  refine wpAnyH_take (i := 5) (oi := { dst := some 88, op := Go.Op.move (Go.Operand.tmp 87), type := 4, pos := "l03_write.go:96", after := #[{ on := 4, ground := Go.Ground.data }, { on := 2, ground := Go.Ground.chain }], guard := none }) (v := ?v5) rfl (by kernel_rfl) (by kernel_rfl) (by kernel_rfl) (fun _ _ _ h => h) (Or.inl ⟨by rfl, ?h5⟩) hHeld ?r5
  case h5 =>
    intro wS hSw
    (try dsimp only at hSw)
    go_simp
    try with_reducible rfl
  case r5 =>
  simp only [Act.put, List.setIfInBounds_toArray, List.set_cons_zero, List.set_cons_succ]
  refine wpAnyH_take (i := 6) (oi := { dst := some 89, op := Go.Op.move (Go.Operand.tmp 12), type := 4, pos := "l03_write.go:96", after := #[{ on := 5, ground := Go.Ground.guard }], guard := some (5, true) }) (v := undef) rfl (by kernel_rfl) (by kernel_rfl) (by kernel_rfl) (fun _ _ _ h => h) (Or.inr ⟨by rfl, rfl⟩) hHeld ?_
  simp only [Act.put, List.setIfInBounds_toArray, List.set_cons_zero, List.set_cons_succ]
  refine wpAnyH_take (i := 7) (oi := { dst := some 90, op := Go.Op.pick (Go.Operand.tmp 88) (Go.Operand.tmp 89) (Go.Operand.const (Go.Value.bool false)), type := 4, pos := "l03_write.go:96", after := #[{ on := 5, ground := Go.Ground.data }, { on := 6, ground := Go.Ground.data }], guard := none }) (v := ?v7) rfl (by kernel_rfl) (by kernel_rfl) (by kernel_rfl) (fun _ _ _ h => h) (Or.inl ⟨by rfl, ?h7⟩) hHeld ?r7
  case h7 =>
    intro wS hSw
    (try dsimp only at hSw)
    go_simp
    try with_reducible rfl
  case r7 =>
  simp only [Act.put, List.setIfInBounds_toArray, List.set_cons_zero, List.set_cons_succ]
  refine wpAnyH_take (i := 8) (oi := { dst := some 91, op := Go.Op.move (Go.Operand.tmp 90), type := 4, pos := "l03_write.go:96", after := #[{ on := 7, ground := Go.Ground.data }, { on := 5, ground := Go.Ground.chain }], guard := none }) (v := ?v8) rfl (by kernel_rfl) (by kernel_rfl) (by kernel_rfl) (fun _ _ _ h => h) (Or.inl ⟨by rfl, ?h8⟩) hHeld ?r8
  case h8 =>
    intro wS hSw
    (try dsimp only at hSw)
    go_simp
    try with_reducible rfl
  case r8 =>
  simp only [Act.put, List.setIfInBounds_toArray, List.set_cons_zero, List.set_cons_succ]
  refine wpAnyH_take (i := 9) (oi := { dst := some 92, op := Go.Op.call { callee := Go.Callee.value (Go.Operand.func 37), args := #[Go.Operand.tmp 4], argTypes := #[48] }, type := 2, pos := "l03_write.go:96", after := #[{ on := 8, ground := Go.Ground.chain }, { on := 8, ground := Go.Ground.guard }], guard := some (8, true) }) (v := undef) rfl (by kernel_rfl) (by kernel_rfl) (by kernel_rfl) (fun _ _ _ h => h) (Or.inr ⟨by rfl, rfl⟩) hHeld ?_
  simp only [Act.put, List.setIfInBounds_toArray, List.set_cons_zero, List.set_cons_succ]
  refine wpAnyH_take (i := 10) (oi := { dst := some 93, op := Go.Op.binOp Go.BinOp.eql 2 (Go.Operand.tmp 92) (Go.Operand.const (Go.Value.int Go.IntKind.i64 0)) 2, type := 4, pos := "l03_write.go:96", after := #[{ on := 9, ground := Go.Ground.data }, { on := 8, ground := Go.Ground.guard }, { on := 12, ground := Go.Ground.gcOnly Go.Departure.lateStores }], guard := some (8, true) }) (v := undef) rfl (by kernel_rfl) (by kernel_rfl) (by kernel_rfl) (fun _ _ _ h => h) (Or.inr ⟨by rfl, rfl⟩) hHeld ?_
  simp only [Act.put, List.setIfInBounds_toArray, List.set_cons_zero, List.set_cons_succ]
  refine wpAnyH_take (i := 11) (oi := { dst := some 94, op := Go.Op.pick (Go.Operand.tmp 91) (Go.Operand.tmp 93) (Go.Operand.const (Go.Value.bool false)), type := 4, pos := "l03_write.go:96", after := #[{ on := 8, ground := Go.Ground.data }, { on := 10, ground := Go.Ground.data }, { on := 12, ground := Go.Ground.gcOnly Go.Departure.lateStores }], guard := none }) (v := ?v11) rfl (by kernel_rfl) (by kernel_rfl) (by kernel_rfl) (fun _ _ _ h => h) (Or.inl ⟨by rfl, ?h11⟩) hHeld ?r11
  case h11 =>
    intro wS hSw
    (try dsimp only at hSw)
    go_simp
    try with_reducible rfl
  case r11 =>
  simp only [Act.put, List.setIfInBounds_toArray, List.set_cons_zero, List.set_cons_succ]
  refine wpAnyH_ready (rs := [12]) (by kernel_rfl) (by simp) ?_
  refine AllReadyH.cons (o := { dst := none, op := Go.Op.store 27 (Go.Operand.tmp 2) (Go.Operand.tmp 83), type := 0, pos := "l03_write.go:96", after := #[{ on := 0, ground := Go.Ground.data }, { on := 9, ground := Go.Ground.chain }, { on := 0, ground := Go.Ground.phase }, { on := 1, ground := Go.Ground.textOnly Go.Departure.lateStores }, { on := 2, ground := Go.Ground.textOnly Go.Departure.lateStores }, { on := 3, ground := Go.Ground.textOnly Go.Departure.lateStores }, { on := 4, ground := Go.Ground.textOnly Go.Departure.lateStores }, { on := 5, ground := Go.Ground.textOnly Go.Departure.lateStores }, { on := 6, ground := Go.Ground.textOnly Go.Departure.lateStores }, { on := 7, ground := Go.Ground.textOnly Go.Departure.lateStores }, { on := 8, ground := Go.Ground.textOnly Go.Departure.lateStores }, { on := 9, ground := Go.Ground.textOnly Go.Departure.lateStoresUnsure }, { on := 10, ground := Go.Ground.textOnly Go.Departure.lateStores }, { on := 11, ground := Go.Ground.textOnly Go.Departure.lateStores }], guard := none }) rfl (fun K hK => ?_) AllReadyH.nil
  obtain ⟨hb9, bX9, ⟨cs9, hs9, bR9⟩, hv9, hz9⟩ := hHeld
  obtain ⟨q0, q1, q2, q3, q4, rfl⟩ : ∃ q0 q1 q2 q3 q4 : Value, cs9 = #[q0, q1, q2, q3, q4] := by
    obtain ⟨l⟩ := cs9
    match l, hs9 with
    | [q0, q1, q2, q3, q4], _ => exact ⟨q0, q1, q2, q3, q4, rfl⟩
  have e0 : wD.cell? ⟨w.heap.size, 0, none⟩ = some q0 := bR9.at 0 _ rfl
  have e1 : wD.cell? ⟨w.heap.size, 1, none⟩ = some q1 := bR9.at 1 _ rfl
  have e2 : wD.cell? ⟨w.heap.size, 2, none⟩ = some q2 := bR9.at 2 _ rfl
  have e3 : wD.cell? ⟨w.heap.size, 3, none⟩ = some q3 := bR9.at 3 _ rfl
  have e4 : wD.cell? ⟨w.heap.size, 4, none⟩ = some q4 := bR9.at 4 _ rfl
  have ef : ∀ o, wD.frozen? ⟨w.heap.size, o, none⟩ = false := bR9.soft
  have el : w.heap.size < wD.heap.size := bR9.lt
  go_simp
  try go_wp2_with fail
  refine hK.out _ _ (storeR (vs := [.int .i64 1, .int .i64 na, .slice a2 ml p2, .int .i64 ns, .int .i64 nq]) hb9 bX9 bR9 hv9 hz9 (by omega) rfl) (fun hHeld => ?_)
  clear hK K
  try simp only [Act.put, List.setIfInBounds_toArray, List.set_cons_zero, List.set_cons_succ]
  refine wpAnyH_take (i := 13) (oi := { dst := some 3, op := Go.Op.assign (Go.Operand.tmp 94), type := 4, pos := "l03_write.go:96", after := #[{ on := 11, ground := Go.Ground.data }, { on := 12, ground := Go.Ground.chain }, { on := 0, ground := Go.Ground.phase }, { on := 1, ground := Go.Ground.phase }, { on := 2, ground := Go.Ground.phase }, { on := 3, ground := Go.Ground.phase }, { on := 4, ground := Go.Ground.phase }, { on := 5, ground := Go.Ground.phase }, { on := 6, ground := Go.Ground.phase }, { on := 7, ground := Go.Ground.phase }, { on := 8, ground := Go.Ground.phase }, { on := 9, ground := Go.Ground.phase }, { on := 10, ground := Go.Ground.phase }, { on := 11, ground := Go.Ground.phase }, { on := 12, ground := Go.Ground.phase }], guard := none }) (v := ?v13) rfl (by kernel_rfl) (by kernel_rfl) (by kernel_rfl) (fun _ _ _ h => h) (Or.inl ⟨by rfl, ?h13⟩) hHeld ?r13
  case h13 =>
    intro wS hSw
    (try dsimp only at hSw)
    go_simp
    try with_reducible rfl
  case r13 =>
  simp only [Act.put, List.setIfInBounds_toArray, List.set_cons_zero, List.set_cons_succ]
  refine wpAnyH_done (by kernel_rfl) ?_ _
  refine NoPanic.normal ?_
  have HS := hide hHeld
  clear hHeld
  go_wp2_with fail
  refine bodyPost_ret (v := .tuple #[.agg #[.int .i64 1, .int .i64 na, .slice a2 ml p2, .int .i64 ns, .int .i64 nq], .bool false]) (by simp [results, Tryz.results28, go_sem, e0, e1, e2, e3, e4]) rfl ?_
  obtain ⟨s1, -, -, s4, s5⟩ := unhide HS
  refine ⟨ms, unhide HM, ?_⟩
  refine ⟨[.int .i64 1, .int .i64 na, .slice a2 ml p2, .int .i64 ns, .int .i64 nq], rfl, ?_, s1⟩
  have fa : (Lit.int .i64 na).wf = true := wf_of_bd (by omega)
  have fb : (Lit.int .i64 ns).wf = true := wf_of_bd (by omega)
  have fc : (Lit.int .i64 nq).wf = true := wf_of_bd (by omega)
  exact readsR (x := ⟨1, na, ms, ns, nq⟩) (s4.mono (by omega) s5) (by rfl) fa fb fc

end Go.Proofs.YtjofcmdlcoganaaGreatDoor

namespace Go.Proofs.YtjofcmdlcoganaaGreatDoor
open Go.RowKit

set_option maxRecDepth 100000 in
set_option maxHeartbeats 4000000 in
theorem l3Read_put2 (g cap : Nat) (a t b c : ByteArray) (w : World) (hcap : 6 ≤ cap) (h0 : w.cell? ⟨g, 0, none⟩ = some (.string ⟨#[112, 117, 116]⟩)) (h1 : w.cell? ⟨g, 1, none⟩ = some (.string a)) (h2 : w.cell? ⟨g, 2, none⟩ = some (.string t)) (h3 : w.cell? ⟨g, 3, none⟩ = some (.string ⟨#[98, 121]⟩)) (h4 : w.cell? ⟨g, 4, none⟩ = some (.string b)) (h5 : w.cell? ⟨g, 5, none⟩ = some (.string c))
    (za : a.size ≤ 1048576) (zt : t.size ≤ 1048576) (zb : b.size ≤ 1048576) (zc : c.size ≤ 1048576) (ka : (numR a.data.toList).2 = true) (kb : (numR b.data.toList).2 = true) (kc : (numR c.data.toList).2 = false) :
    Calls Tryz.prog 28 #[.slice (some ⟨g, 0, none⟩) 6 cap] w fun e w' => ∃ ms, ((modelP t.data.toList = some ms) ∨ (modelP t.data.toList = none ∧ vecFault ms ≠ 0)) ∧ ToldR w w' e (tailW 1 ms a.data.toList b.data.toList c.data.toList) false := by
  have bda := numR_bd a.data.toList
  have bdb := numR_bd b.data.toList
  have bdc := numR_bd c.data.toList
  have NA := hide (fun W => number a W za)
  have NB := hide (fun W => number b W zb)
  have NC := hide (fun W => number c W zc)
  have NP := hide (fun W => parseC t W zt)
  unfold tailW
  generalize (numR a.data.toList).1 = na at *
  generalize (numR b.data.toList).1 = ns at *
  generalize (numR c.data.toList).1 = nq at *
  generalize (numR a.data.toList).2 = oa at *
  generalize (numR b.data.toList).2 = ob at *
  generalize (numR c.data.toList).2 = oc at *
  subst ka kb kc
  have nb0 : Below w.heap.size w (w.alloc (.cells #[.int .i64 0, .int .i64 0, .slice none 0 0, .int .i64 0, .int .i64 0] 27)) := (Below.refl _ _).alloc (Nat.le_refl _) _
  have nb1 : Below (w.alloc (.cells #[.int .i64 0, .int .i64 0, .slice none 0 0, .int .i64 0, .int .i64 0] 27)).heap.size (w.alloc (.cells #[.int .i64 0, .int .i64 0, .slice none 0 0, .int .i64 0, .int .i64 0] 27)) ((w.alloc (.cells #[.int .i64 0, .int .i64 0, .slice none 0 0, .int .i64 0, .int .i64 0] 27)).alloc (.cells #[.int .i64 2, .int .i64 0, .slice none 0 0, .int .i64 0, .int .i64 0] 27)) := (Below.refl _ _).alloc (Nat.le_refl _) _
  have bR : Box 0 #[.int .i64 0, .int .i64 0, .slice none 0 0, .int .i64 0, .int .i64 0] 27 ((w.alloc (.cells #[.int .i64 0, .int .i64 0, .slice none 0 0, .int .i64 0, .int .i64 0] 27)).alloc (.cells #[.int .i64 2, .int .i64 0, .slice none 0 0, .int .i64 0, .int .i64 0] 27)) w.heap.size := (newBox (Nat.zero_le _)).keep nb1
  have nb := nb0.trans (nb1.mono nb0.size)
  clear nb0 nb1
  have bX : Box 0 #[.int .i64 2, .int .i64 0, .slice none 0 0, .int .i64 0, .int .i64 0] 27 ((w.alloc (.cells #[.int .i64 0, .int .i64 0, .slice none 0 0, .int .i64 0, .int .i64 0] 27)).alloc (.cells #[.int .i64 2, .int .i64 0, .slice none 0 0, .int .i64 0, .int .i64 0] 27)) (w.heap.size + 1) := by
    have := newBox (W := w.alloc (.cells #[.int .i64 0, .int .i64 0, .slice none 0 0, .int .i64 0, .int .i64 0] 27)) (cs := #[.int .i64 2, .int .i64 0, .slice none 0 0, .int .i64 0, .int .i64 0]) (T := 27) (lo := 0) (Nat.zero_le _)
    simpa using this
  have d0 := cell_keep nb h0
  have d2 := cell_keep nb h2
  have HC := hide (And.intro h1 (And.intro h3 (And.intro h4 h5)))
  clear h0 h1 h2 h3 h4 h5
  have HB := hide nb
  have HX := hide bX
  have HR := hide bR
  clear nb bX bR
  go_enter Tryz.func28, Tryz.ntmps28
  go_wp2_with fail
  have bX := unhide HX
  have bR := unhide HR
  clear HX HR d0 d2
  generalize (w.alloc (.cells #[.int .i64 0, .int .i64 0, .slice none 0 0, .int .i64 0, .int .i64 0] 27)).alloc (.cells #[.int .i64 2, .int .i64 0, .slice none 0 0, .int .i64 0, .int .i64 0] 27) = W1 at *
  have hsx : w.heap.size < w.heap.size + 1 := by omega
  generalize w.heap.size + 1 = sx at *
  refine (unhide NP _).mono ?_
  rintro e w0 ⟨v, fl, rfl, hcase, hb⟩
  obtain ⟨ms, hm, hwf, O⟩ : ∃ ms : List Int, ((modelP t.data.toList = some ms) ∨ (modelP t.data.toList = none ∧ vecFault ms ≠ 0)) ∧ (∀ z ∈ ms, (Lit.int .i64 z).wf = true) ∧ w0.ownsRow W1.heap.size 2 1 v ms.length (ms.map (Value.int .i64)) := by
    rcases hcase with ⟨-, ms, h1, h2, h3⟩ | ⟨-, h1, ms, h2, h3, h4⟩
    · exact ⟨ms, Or.inl h1, h2, h3⟩
    · exact ⟨ms, Or.inr ⟨h1, h2⟩, h3, h4⟩
  have HM := hide hm
  clear hm hcase
  have hX0 := bX.lt
  have HV0 : Hid ((Lay.sl Lay.int).LiesIn w0 [v] ms (sx + 1) w0.heap.size) := ((Lay.ownInts hwf (own_big O) O).mono (lo' := sx + 1) (by omega) (Nat.le_refl _)).lies
  obtain ⟨a2, p2, rfl⟩ := own_shape O
  replace bX := bX.keep hb
  replace bR := bR.keep hb
  replace HB := hide ((unhide HB).trans (hb.mono (unhide HB).size))
  clear hb hwf O hX0
  have x0 := bX.at 0 _ rfl
  have x1 := bX.at 1 _ rfl
  have x2 := bX.at 2 _ rfl
  have x3 := bX.at 3 _ rfl
  have x4 := bX.at 4 _ rfl
  have xf := bX.soft
  have xl := bX.lt
  have HX := hide bX
  have HR := hide bR
  clear bX bR
  simp only [List.getElem_toArray, List.getElem_cons_zero, List.getElem_cons_succ] at x0 x1 x2 x3 x4
  go_wp2_with fail
  obtain ⟨bX, bR, hB1, hV2⟩ := storeP (.int .i64 1) (.slice a2 ms.length p2) hsx (unhide HX) (unhide HR) (unhide HB) (unhide HV0)
  have HB1 := hide hB1
  have HV2 := hide hV2
  clear hB1 hV2 HX HR HB HV0 x0 x1 x2 x3 x4 xf xl
  generalize (w0.setCell ⟨sx, 0, none⟩ (.int .i64 1)).setCell ⟨sx, 2, none⟩ (.slice a2 ms.length p2) = W2 at *
  generalize ms.length = ml at *
  have HX := hide bX
  have HR := hide bR
  clear bX bR
  obtain ⟨g1, g3, g4, g5⟩ := unhide HC
  have k1 := cell_keep (unhide HB1) g1
  have k3 := cell_keep (unhide HB1) g3
  have k4 := cell_keep (unhide HB1) g4
  have k5 := cell_keep (unhide HB1) g5
  clear g1 g3 g4 g5 HC
  refine wp_region_noPanic ?_
  refine wp_region_held_drew (S := fun w' => Below W2.heap.size W2 w') (by kernel_rfl) (Below.refl _ _).drew (fun hHeld => ?_)
  have hDz0 : W2.heap.size ≤ W2.drew.heap.size := Nat.le_refl _
  generalize W2.drew = wD at hHeld hDz0 ⊢
  have hDz : W2.heap.size ≤ wD.heap.size := hDz0
  refine wpAnyH_take (i := 0) (oi := { dst := some 33, op := Go.Op.move (Go.Operand.tmp 0), type := 57, pos := "l03_write.go:85", after := #[], guard := none }) (v := ?vp0) rfl (by kernel_rfl) (by kernel_rfl) (by kernel_rfl) (fun _ _ _ h => h) (Or.inl ⟨by rfl, ?hp0⟩) hHeld ?rp0
  case hp0 =>
    intro wS hSw
    (try dsimp only at hSw)
    go_simp
    try with_reducible rfl
  case rp0 =>
  simp only [Act.put, List.setIfInBounds_toArray, List.set_cons_zero, List.set_cons_succ]
  refine wpAnyH_take (i := 1) (oi := { dst := some 34, op := Go.Op.indexAddr 57 (Go.Operand.tmp 33) (Go.Operand.const (Go.Value.int Go.IntKind.i64 1)), type := 0, pos := "l03_write.go:85", after := #[{ on := 0, ground := Go.Ground.data }], guard := none }) (v := ?vp1) rfl (by kernel_rfl) (by kernel_rfl) (by kernel_rfl) (fun _ _ _ h => h) (Or.inl ⟨by rfl, ?hp1⟩) hHeld ?rp1
  case hp1 =>
    intro wS hSw
    (try dsimp only at hSw)
    go_simp
    try with_reducible rfl
  case rp1 =>
  simp only [Act.put, List.setIfInBounds_toArray, List.set_cons_zero, List.set_cons_succ]
  refine wpAnyH_take (i := 2) (oi := { dst := some 35, op := Go.Op.load 9 (Go.Operand.tmp 34), type := 9, pos := "l03_write.go:85", after := #[{ on := 1, ground := Go.Ground.data }], guard := none }) (v := ?vp2) rfl (by kernel_rfl) (by kernel_rfl) (by kernel_rfl) (fun _ _ _ h => h) (Or.inl ⟨by rfl, ?hp2⟩) hHeld ?rp2
  case hp2 =>
    intro wS hSw
    have y1 := cell_keep hSw k1
    clear hSw
    (try dsimp only at hSw)
    go_simp
    try with_reducible rfl
  case rp2 =>
  simp only [Act.put, List.setIfInBounds_toArray, List.set_cons_zero, List.set_cons_succ]
  refine wpAnyH_take (i := 4) (oi := { dst := some 37, op := Go.Op.move (Go.Operand.tmp 0), type := 57, pos := "l03_write.go:85", after := #[], guard := none }) (v := ?vp4) rfl (by kernel_rfl) (by kernel_rfl) (by kernel_rfl) (fun _ _ _ h => h) (Or.inl ⟨by rfl, ?hp4⟩) hHeld ?rp4
  case hp4 =>
    intro wS hSw
    (try dsimp only at hSw)
    go_simp
    try with_reducible rfl
  case rp4 =>
  simp only [Act.put, List.setIfInBounds_toArray, List.set_cons_zero, List.set_cons_succ]
  refine wpAnyH_take (i := 5) (oi := { dst := some 38, op := Go.Op.slice 57 (Go.Operand.tmp 37) (some (Go.Operand.const (Go.Value.int Go.IntKind.i64 3))) none none, type := 57, pos := "l03_write.go:85", after := #[{ on := 4, ground := Go.Ground.data }], guard := none }) (v := ?vp5) rfl (by kernel_rfl) (by kernel_rfl) (by kernel_rfl) (fun _ _ _ h => h) (Or.inl ⟨by rfl, ?hp5⟩) hHeld ?rp5
  case hp5 =>
    intro wS hSw
    (try dsimp only at hSw)
    go_simp
    try with_reducible rfl
  case rp5 =>
  simp only [Act.put, List.setIfInBounds_toArray, List.set_cons_zero, List.set_cons_succ]
  refine wpAnyH_ready (rs := [3]) (by kernel_rfl) (by simp) ?_
  refine AllReadyH.cons (o := { dst := some 36, op := Go.Op.buildSlice 57 2 #[(0, Go.Operand.const (Go.Value.string { data := #[100, 114, 111, 112] })), (1, Go.Operand.tmp 35)], type := 57, pos := "l03_write.go:85", after := #[{ on := 2, ground := Go.Ground.data }], guard := none }) rfl (fun K hK => ?_) AllReadyH.nil
  go_simp
  refine hK.out _ _ (hHeld.alloc hHeld.size _) (fun hHeld => ?_)
  clear hK K
  try simp only [Act.put, List.setIfInBounds_toArray, List.set_cons_zero, List.set_cons_succ]
  refine wpAnyH_ready (rs := [6]) (by kernel_rfl) (by simp) ?_
  refine AllReadyH.cons (o := { dst := some 39, op := Go.Op.call { callee := Go.Callee.builtin Go.Builtin.append, args := #[Go.Operand.tmp 36, Go.Operand.tmp 38], argTypes := #[57, 57] }, type := 57, pos := "l03_write.go:85", after := #[{ on := 3, ground := Go.Ground.data }, { on := 5, ground := Go.Ground.data }], guard := none }) rfl (fun K hK => ?_) AllReadyH.nil
  have hne3 : ¬ cap = 3 := by omega
  rw [if_neg hne3]
  have hnews : ∀ (j : Nat) (u : Value), [Value.string ⟨#[98, 121]⟩, .string b, .string c][j]? = some u → (wD.alloc (.cells #[.string ⟨#[100, 114, 111, 112]⟩, .string a] 9)).cell? ((⟨g, 3, none⟩ : Addr).add j) = some u := by
    intro j u hj
    rcases j with _ | _ | _ | j
    · obtain rfl : Value.string ⟨#[98, 121]⟩ = u := by simpa using hj
      exact cell_keep hHeld k3
    · obtain rfl : Value.string b = u := by simpa using hj
      exact cell_keep hHeld k4
    · obtain rfl : Value.string c = u := by simpa using hj
      exact cell_keep hHeld k5
    · simp at hj
  have O6 : (wD.alloc (.cells #[.string ⟨#[100, 114, 111, 112]⟩, .string a] 9)).ownsRow wD.heap.size 9 1 (.slice (some ⟨wD.heap.size, 0, none⟩) 2 2) 2 [.string ⟨#[100, 114, 111, 112]⟩, .string a] := World.ownsRow_lit wD #[.string ⟨#[100, 114, 111, 112]⟩, .string a] 2 (Nat.le_refl _) (by unfold maxLen; omega) rfl
  refine step_append_at O6 ⟨g, 3, none⟩ 3 (cap - 3) [.string ⟨#[98, 121]⟩, .string b, .string c] rfl _ _ rfl rfl rfl rfl hnews (by simp [Value.oneCell']) (by omega) (by omega) (by simp) ?_
  rintro g7 d7 w7 O7 hb7 hl7 hz7
  refine hK.out _ _ (hHeld.trans (hb7.mono (by have := hDz; omega))) (fun hHeld => ?_)
  clear hK K
  try simp only [Act.put, List.setIfInBounds_toArray, List.set_cons_zero, List.set_cons_succ]
  refine wpAnyH_take (i := 7) (oi := { dst := some 0, op := Go.Op.assign (Go.Operand.tmp 39), type := 57, pos := "l03_write.go:85", after := #[{ on := 6, ground := Go.Ground.data }, { on := 6, ground := Go.Ground.chain }, { on := 0, ground := Go.Ground.phase }, { on := 1, ground := Go.Ground.phase }, { on := 2, ground := Go.Ground.phase }, { on := 3, ground := Go.Ground.phase }, { on := 4, ground := Go.Ground.phase }, { on := 5, ground := Go.Ground.phase }, { on := 6, ground := Go.Ground.phase }], guard := none }) (v := ?vp7) rfl (by kernel_rfl) (by kernel_rfl) (by kernel_rfl) (fun _ _ _ h => h) (Or.inl ⟨by rfl, ?hp7⟩) hHeld ?rp7
  case hp7 =>
    intro wS hSw
    (try dsimp only at hSw)
    go_simp
    try with_reducible rfl
  case rp7 =>
  simp only [Act.put, List.setIfInBounds_toArray, List.set_cons_zero]
  refine wpAnyH_done (by kernel_rfl) ?_ _
  refine NoPanic.normal ?_
  have d0 : w7.cell? ⟨g7, 0, none⟩ = some (.string ⟨#[100, 114, 111, 112]⟩) := (O7.cellAt 0 (by omega)).trans rfl
  have d1 : w7.cell? ⟨g7, 1, none⟩ = some (.string a) := (O7.cellAt 1 (by omega)).trans rfl
  have d2 : w7.cell? ⟨g7, 2, none⟩ = some (.string ⟨#[98, 121]⟩) := (O7.cellAt 2 (by omega)).trans rfl
  have d3 : w7.cell? ⟨g7, 3, none⟩ = some (.string b) := (O7.cellAt 3 (by omega)).trans rfl
  have d4 : w7.cell? ⟨g7, 4, none⟩ = some (.string c) := (O7.cellAt 4 (by omega)).trans rfl
  have bX := (unhide HX).keep hHeld
  have bR := (unhide HR).keep hHeld
  have HB := hide ((unhide HB1).trans (hHeld.mono (unhide HB1).size))
  have HVI := hide (((unhide HV2).later hHeld).mono (Nat.le_refl _) (hi' := w7.heap.size) hHeld.size)
  clear O7 O6 hb7 hHeld HX HR HB1 HV2 k1 k3 k4 k5 hnews hDz hDz0 hl7 hz7
  have HX := hide bX
  have HR := hide bR
  clear bX bR
  go_wp2_with fail
  have bX := unhide HX
  have bR := unhide HR
  clear HX HR d0 d2
  refine (unhide NA _).mono ?_
  rintro e w1 ⟨rfl, hb⟩
  replace bX := bX.keep hb
  replace bR := bR.keep hb
  replace HB := hide ((unhide HB).trans (hb.mono (unhide HB).size))
  replace HVI := hide (((unhide HVI).later hb).mono (Nat.le_refl _) (hi' := w1.heap.size) hb.size)
  replace d3 := cell_keep hb d3
  replace d4 := cell_keep hb d4
  clear hb d1
  have HX := hide bX
  have HR := hide bR
  clear bX bR
  go_wp2_with fail
  have bX := unhide HX
  have bR := unhide HR
  clear HX HR
  refine (unhide NB _).mono ?_
  rintro e w2 ⟨rfl, hb⟩
  replace bX := bX.keep hb
  replace bR := bR.keep hb
  replace HB := hide ((unhide HB).trans (hb.mono (unhide HB).size))
  replace HVI := hide (((unhide HVI).later hb).mono (Nat.le_refl _) (hi' := w2.heap.size) hb.size)
  replace d4 := cell_keep hb d4
  clear hb d3
  have HX := hide bX
  have HR := hide bR
  clear bX bR
  go_wp2_with fail
  have bX := unhide HX
  have bR := unhide HR
  clear HX HR
  refine (unhide NC _).mono ?_
  rintro e w3 ⟨rfl, hb⟩
  replace bX := bX.keep hb
  replace bR := bR.keep hb
  replace HB := hide ((unhide HB).trans (hb.mono (unhide HB).size))
  replace HVI := hide (((unhide HVI).later hb).mono (Nat.le_refl _) (hi' := w3.heap.size) hb.size)
  clear hb d4
  have x0 := bX.at 0 _ rfl
  have x1 := bX.at 1 _ rfl
  have x2 := bX.at 2 _ rfl
  have x3 := bX.at 3 _ rfl
  have x4 := bX.at 4 _ rfl
  have xf := bX.soft
  have xl := bX.lt
  have HX := hide bX
  have HR := hide bR
  clear bX bR
  simp only [List.getElem_toArray, List.getElem_cons_zero, List.getElem_cons_succ] at x0 x1 x2 x3 x4
  go_wp2_with fail
  obtain ⟨bX, bR, hB1, hV2⟩ := storeX (.int .i64 na) (.int .i64 ns) (.int .i64 nq) hsx (unhide HX) (unhide HR) (unhide HB) (unhide HVI)
  have HB1 := hide hB1
  have HV2 := hide hV2
  clear hB1 hV2
  clear HX HR HB HVI x0 x1 x2 x3 x4 xf xl
  generalize ((w3.setCell ⟨sx, 1, none⟩ (.int .i64 na)).setCell ⟨sx, 3, none⟩ (.int .i64 ns)).setCell ⟨sx, 4, none⟩ (.int .i64 nq) = W2 at *
  refine wp_region_noPanic ?_
  refine wp_region_held_drew (S := fun w' => Below w.heap.size w w' ∧ Box 0 #[.int .i64 1, .int .i64 na, .slice a2 ml p2, .int .i64 ns, .int .i64 nq] 27 w' sx ∧ (∃ cs : Array Value, cs.size = 5 ∧ Box 0 cs 27 w' w.heap.size) ∧ (Lay.sl Lay.int).LiesIn w' [.slice a2 ml p2] ms (sx + 1) W2.heap.size ∧ W2.heap.size ≤ w'.heap.size) (by kernel_rfl) ⟨(unhide HB1).drew, bX.drew, ⟨_, rfl, bR.drew⟩, unhide HV2, Nat.le_refl _⟩ (fun hHeld => ?_)
  generalize W2.drew = wD at hHeld ⊢
  refine wpAnyH_take (i := 0) (oi := { dst := some 83, op := Go.Op.load 27 (Go.Operand.tmp 4), type := 27, pos := "l03_write.go:96", after := #[], guard := none }) (v := ?v0) rfl (by kernel_rfl) (by kernel_rfl) (by kernel_rfl) (fun _ _ _ h => h) (Or.inl ⟨by rfl, ?h0⟩) hHeld ?r0
  case h0 =>
    intro wS hSw
    have y0 := hSw.2.1.at 0 _ rfl
    have y1 := hSw.2.1.at 1 _ rfl
    have y2 := hSw.2.1.at 2 _ rfl
    have y3 := hSw.2.1.at 3 _ rfl
    have y4 := hSw.2.1.at 4 _ rfl
    simp only [List.getElem_toArray, List.getElem_cons_zero, List.getElem_cons_succ] at y0 y1 y2 y3 y4
    clear hSw
    (try dsimp only at hSw)
    go_simp
    try with_reducible rfl
  case r0 =>
  simp only [Act.put, List.setIfInBounds_toArray, List.set_cons_zero, List.set_cons_succ]
  refine wpAnyH_take (i := 1) (oi := { dst := some 84, op := Go.Op.move (Go.Operand.tmp 8), type := 4, pos := "l03_write.go:96", after := #[], guard := none }) (v := ?v1) rfl (by kernel_rfl) (by kernel_rfl) (by kernel_rfl) (fun _ _ _ h => h) (Or.inl ⟨by rfl, ?h1⟩) hHeld ?r1
  case h1 =>
    intro wS hSw
    (try dsimp only at hSw)
    go_simp
    try with_reducible rfl
  case r1 =>
  simp only [Act.put, List.setIfInBounds_toArray, List.set_cons_zero, List.set_cons_succ]
  refine wpAnyH_take (i := 2) (oi := { dst := some 85, op := Go.Op.move (Go.Operand.tmp 84), type := 4, pos := "l03_write.go:96", after := #[{ on := 1, ground := Go.Ground.data }], guard := none }) (v := ?v2) rfl (by kernel_rfl) (by kernel_rfl) (by kernel_rfl) (fun _ _ _ h => h) (Or.inl ⟨by rfl, ?h2⟩) hHeld ?r2
  case h2 =>
    intro wS hSw
    (try dsimp only at hSw)
    go_simp
    try with_reducible rfl
  case r2 =>
  simp only [Act.put, List.setIfInBounds_toArray, List.set_cons_zero, List.set_cons_succ]
  refine wpAnyH_take (i := 3) (oi := { dst := some 86, op := Go.Op.move (Go.Operand.tmp 10), type := 4, pos := "l03_write.go:96", after := #[{ on := 2, ground := Go.Ground.guard }], guard := some (2, true) }) (v := ?v3) rfl (by kernel_rfl) (by kernel_rfl) (by kernel_rfl) (fun _ _ _ h => h) (Or.inl ⟨by rfl, ?h3⟩) hHeld ?r3
  case h3 =>
    intro wS hSw
    (try dsimp only at hSw)
    go_simp
    try with_reducible rfl
  case r3 =>
  simp only [Act.put, List.setIfInBounds_toArray, List.set_cons_zero, List.set_cons_succ]
  refine wpAnyH_take (i := 4) (oi := { dst := some 87, op := Go.Op.pick (Go.Operand.tmp 85) (Go.Operand.tmp 86) (Go.Operand.const (Go.Value.bool false)), type := 4, pos := "l03_write.go:96", after := #[{ on := 2, ground := Go.Ground.data }, { on := 3, ground := Go.Ground.data }], guard := none }) (v := ?v4) rfl (by kernel_rfl) (by kernel_rfl) (by kernel_rfl) (fun _ _ _ h => h) (Or.inl ⟨by rfl, ?h4⟩) hHeld ?r4
  case h4 =>
    intro wS hSw
    (try dsimp only at hSw)
    go_simp
    try with_reducible rfl
  case r4 =>
  simp only [Act.put, List.setIfInBounds_toArray, List.set_cons_zero, List.set_cons_succ]
  refine wpAnyH_take (i := 5) (oi := { dst := some 88, op := Go.Op.move (Go.Operand.tmp 87), type := 4, pos := "l03_write.go:96", after := #[{ on := 4, ground := Go.Ground.data }, { on := 2, ground := Go.Ground.chain }], guard := none }) (v := ?v5) rfl (by kernel_rfl) (by kernel_rfl) (by kernel_rfl) (fun _ _ _ h => h) (Or.inl ⟨by rfl, ?h5⟩) hHeld ?r5
  case h5 =>
    intro wS hSw
    (try dsimp only at hSw)
    go_simp
    try with_reducible rfl
  case r5 =>
  simp only [Act.put, List.setIfInBounds_toArray, List.set_cons_zero, List.set_cons_succ]
  refine wpAnyH_take (i := 6) (oi := { dst := some 89, op := Go.Op.move (Go.Operand.tmp 12), type := 4, pos := "l03_write.go:96", after := #[{ on := 5, ground := Go.Ground.guard }], guard := some (5, true) }) (v := ?v6) rfl (by kernel_rfl) (by kernel_rfl) (by kernel_rfl) (fun _ _ _ h => h) (Or.inl ⟨by rfl, ?h6⟩) hHeld ?r6
  case h6 =>
    intro wS hSw
    (try dsimp only at hSw)
    go_simp
    try with_reducible rfl
  case r6 =>
  simp only [Act.put, List.setIfInBounds_toArray, List.set_cons_zero, List.set_cons_succ]
  refine wpAnyH_take (i := 7) (oi := { dst := some 90, op := Go.Op.pick (Go.Operand.tmp 88) (Go.Operand.tmp 89) (Go.Operand.const (Go.Value.bool false)), type := 4, pos := "l03_write.go:96", after := #[{ on := 5, ground := Go.Ground.data }, { on := 6, ground := Go.Ground.data }], guard := none }) (v := ?v7) rfl (by kernel_rfl) (by kernel_rfl) (by kernel_rfl) (fun _ _ _ h => h) (Or.inl ⟨by rfl, ?h7⟩) hHeld ?r7
  case h7 =>
    intro wS hSw
    (try dsimp only at hSw)
    go_simp
    try with_reducible rfl
  case r7 =>
  simp only [Act.put, List.setIfInBounds_toArray, List.set_cons_zero, List.set_cons_succ]
  refine wpAnyH_take (i := 8) (oi := { dst := some 91, op := Go.Op.move (Go.Operand.tmp 90), type := 4, pos := "l03_write.go:96", after := #[{ on := 7, ground := Go.Ground.data }, { on := 5, ground := Go.Ground.chain }], guard := none }) (v := ?v8) rfl (by kernel_rfl) (by kernel_rfl) (by kernel_rfl) (fun _ _ _ h => h) (Or.inl ⟨by rfl, ?h8⟩) hHeld ?r8
  case h8 =>
    intro wS hSw
    (try dsimp only at hSw)
    go_simp
    try with_reducible rfl
  case r8 =>
  simp only [Act.put, List.setIfInBounds_toArray, List.set_cons_zero, List.set_cons_succ]
  refine wpAnyH_take (i := 9) (oi := { dst := some 92, op := Go.Op.call { callee := Go.Callee.value (Go.Operand.func 37), args := #[Go.Operand.tmp 4], argTypes := #[48] }, type := 2, pos := "l03_write.go:96", after := #[{ on := 8, ground := Go.Ground.chain }, { on := 8, ground := Go.Ground.guard }], guard := some (8, true) }) (v := undef) rfl (by kernel_rfl) (by kernel_rfl) (by kernel_rfl) (fun _ _ _ h => h) (Or.inr ⟨by rfl, rfl⟩) hHeld ?_
  simp only [Act.put, List.setIfInBounds_toArray, List.set_cons_zero, List.set_cons_succ]
  refine wpAnyH_take (i := 10) (oi := { dst := some 93, op := Go.Op.binOp Go.BinOp.eql 2 (Go.Operand.tmp 92) (Go.Operand.const (Go.Value.int Go.IntKind.i64 0)) 2, type := 4, pos := "l03_write.go:96", after := #[{ on := 9, ground := Go.Ground.data }, { on := 8, ground := Go.Ground.guard }, { on := 12, ground := Go.Ground.gcOnly Go.Departure.lateStores }], guard := some (8, true) }) (v := undef) rfl (by kernel_rfl) (by kernel_rfl) (by kernel_rfl) (fun _ _ _ h => h) (Or.inr ⟨by rfl, rfl⟩) hHeld ?_
  simp only [Act.put, List.setIfInBounds_toArray, List.set_cons_zero, List.set_cons_succ]
  refine wpAnyH_take (i := 11) (oi := { dst := some 94, op := Go.Op.pick (Go.Operand.tmp 91) (Go.Operand.tmp 93) (Go.Operand.const (Go.Value.bool false)), type := 4, pos := "l03_write.go:96", after := #[{ on := 8, ground := Go.Ground.data }, { on := 10, ground := Go.Ground.data }, { on := 12, ground := Go.Ground.gcOnly Go.Departure.lateStores }], guard := none }) (v := ?v11) rfl (by kernel_rfl) (by kernel_rfl) (by kernel_rfl) (fun _ _ _ h => h) (Or.inl ⟨by rfl, ?h11⟩) hHeld ?r11
  case h11 =>
    intro wS hSw
    (try dsimp only at hSw)
    go_simp
    try with_reducible rfl
  case r11 =>
  simp only [Act.put, List.setIfInBounds_toArray, List.set_cons_zero, List.set_cons_succ]
  refine wpAnyH_ready (rs := [12]) (by kernel_rfl) (by simp) ?_
  refine AllReadyH.cons (o := { dst := none, op := Go.Op.store 27 (Go.Operand.tmp 2) (Go.Operand.tmp 83), type := 0, pos := "l03_write.go:96", after := #[{ on := 0, ground := Go.Ground.data }, { on := 9, ground := Go.Ground.chain }, { on := 0, ground := Go.Ground.phase }, { on := 1, ground := Go.Ground.textOnly Go.Departure.lateStores }, { on := 2, ground := Go.Ground.textOnly Go.Departure.lateStores }, { on := 3, ground := Go.Ground.textOnly Go.Departure.lateStores }, { on := 4, ground := Go.Ground.textOnly Go.Departure.lateStores }, { on := 5, ground := Go.Ground.textOnly Go.Departure.lateStores }, { on := 6, ground := Go.Ground.textOnly Go.Departure.lateStores }, { on := 7, ground := Go.Ground.textOnly Go.Departure.lateStores }, { on := 8, ground := Go.Ground.textOnly Go.Departure.lateStores }, { on := 9, ground := Go.Ground.textOnly Go.Departure.lateStoresUnsure }, { on := 10, ground := Go.Ground.textOnly Go.Departure.lateStores }, { on := 11, ground := Go.Ground.textOnly Go.Departure.lateStores }], guard := none }) rfl (fun K hK => ?_) AllReadyH.nil
  obtain ⟨hb9, bX9, ⟨cs9, hs9, bR9⟩, hv9, hz9⟩ := hHeld
  obtain ⟨q0, q1, q2, q3, q4, rfl⟩ : ∃ q0 q1 q2 q3 q4 : Value, cs9 = #[q0, q1, q2, q3, q4] := by
    obtain ⟨l⟩ := cs9
    match l, hs9 with
    | [q0, q1, q2, q3, q4], _ => exact ⟨q0, q1, q2, q3, q4, rfl⟩
  have e0 : wD.cell? ⟨w.heap.size, 0, none⟩ = some q0 := bR9.at 0 _ rfl
  have e1 : wD.cell? ⟨w.heap.size, 1, none⟩ = some q1 := bR9.at 1 _ rfl
  have e2 : wD.cell? ⟨w.heap.size, 2, none⟩ = some q2 := bR9.at 2 _ rfl
  have e3 : wD.cell? ⟨w.heap.size, 3, none⟩ = some q3 := bR9.at 3 _ rfl
  have e4 : wD.cell? ⟨w.heap.size, 4, none⟩ = some q4 := bR9.at 4 _ rfl
  have ef : ∀ o, wD.frozen? ⟨w.heap.size, o, none⟩ = false := bR9.soft
  have el : w.heap.size < wD.heap.size := bR9.lt
  go_simp
  try go_wp2_with fail
  refine hK.out _ _ (storeR (vs := [.int .i64 1, .int .i64 na, .slice a2 ml p2, .int .i64 ns, .int .i64 nq]) hb9 bX9 bR9 hv9 hz9 (by omega) rfl) (fun hHeld => ?_)
  clear hK K
  try simp only [Act.put, List.setIfInBounds_toArray, List.set_cons_zero, List.set_cons_succ]
  refine wpAnyH_take (i := 13) (oi := { dst := some 3, op := Go.Op.assign (Go.Operand.tmp 94), type := 4, pos := "l03_write.go:96", after := #[{ on := 11, ground := Go.Ground.data }, { on := 12, ground := Go.Ground.chain }, { on := 0, ground := Go.Ground.phase }, { on := 1, ground := Go.Ground.phase }, { on := 2, ground := Go.Ground.phase }, { on := 3, ground := Go.Ground.phase }, { on := 4, ground := Go.Ground.phase }, { on := 5, ground := Go.Ground.phase }, { on := 6, ground := Go.Ground.phase }, { on := 7, ground := Go.Ground.phase }, { on := 8, ground := Go.Ground.phase }, { on := 9, ground := Go.Ground.phase }, { on := 10, ground := Go.Ground.phase }, { on := 11, ground := Go.Ground.phase }, { on := 12, ground := Go.Ground.phase }], guard := none }) (v := ?v13) rfl (by kernel_rfl) (by kernel_rfl) (by kernel_rfl) (fun _ _ _ h => h) (Or.inl ⟨by rfl, ?h13⟩) hHeld ?r13
  case h13 =>
    intro wS hSw
    (try dsimp only at hSw)
    go_simp
    try with_reducible rfl
  case r13 =>
  simp only [Act.put, List.setIfInBounds_toArray, List.set_cons_zero, List.set_cons_succ]
  refine wpAnyH_done (by kernel_rfl) ?_ _
  refine NoPanic.normal ?_
  have HS := hide hHeld
  clear hHeld
  go_wp2_with fail
  refine bodyPost_ret (v := .tuple #[.agg #[.int .i64 1, .int .i64 na, .slice a2 ml p2, .int .i64 ns, .int .i64 nq], .bool false]) (by simp [results, Tryz.results28, go_sem, e0, e1, e2, e3, e4]) rfl ?_
  obtain ⟨s1, -, -, s4, s5⟩ := unhide HS
  refine ⟨ms, unhide HM, ?_⟩
  refine ⟨[.int .i64 1, .int .i64 na, .slice a2 ml p2, .int .i64 ns, .int .i64 nq], rfl, ?_, s1⟩
  have fa : (Lit.int .i64 na).wf = true := wf_of_bd (by omega)
  have fb : (Lit.int .i64 ns).wf = true := wf_of_bd (by omega)
  have fc : (Lit.int .i64 nq).wf = true := wf_of_bd (by omega)
  exact readsR (x := ⟨1, na, ms, ns, nq⟩) (s4.mono (by omega) s5) (by rfl) fa fb fc

end Go.Proofs.YtjofcmdlcoganaaGreatDoor

namespace Go.Proofs.YtjofcmdlcoganaaGreatDoor
open Go.RowKit

set_option maxRecDepth 100000 in
set_option maxHeartbeats 4000000 in
theorem l3Read_put3 (g cap : Nat) (a t b c : ByteArray) (w : World) (hcap : 6 ≤ cap) (h0 : w.cell? ⟨g, 0, none⟩ = some (.string ⟨#[112, 117, 116]⟩)) (h1 : w.cell? ⟨g, 1, none⟩ = some (.string a)) (h2 : w.cell? ⟨g, 2, none⟩ = some (.string t)) (h3 : w.cell? ⟨g, 3, none⟩ = some (.string ⟨#[98, 121]⟩)) (h4 : w.cell? ⟨g, 4, none⟩ = some (.string b)) (h5 : w.cell? ⟨g, 5, none⟩ = some (.string c))
    (za : a.size ≤ 1048576) (zt : t.size ≤ 1048576) (zb : b.size ≤ 1048576) (zc : c.size ≤ 1048576) (ka : (numR a.data.toList).2 = true) (kb : (numR b.data.toList).2 = true) (kc : (numR c.data.toList).2 = true) :
    Calls Tryz.prog 28 #[.slice (some ⟨g, 0, none⟩) 6 cap] w fun e w' => ∃ ms, ((modelP t.data.toList = some ms) ∨ (modelP t.data.toList = none ∧ vecFault ms ≠ 0)) ∧ ToldR w w' e (tailW 1 ms a.data.toList b.data.toList c.data.toList) (writeFault 1 (numR a.data.toList).1 ms (numR b.data.toList).1 (numR c.data.toList).1 == 0) := by
  have bda := numR_bd a.data.toList
  have bdb := numR_bd b.data.toList
  have bdc := numR_bd c.data.toList
  have NA := hide (fun W => number a W za)
  have NB := hide (fun W => number b W zb)
  have NC := hide (fun W => number c W zc)
  have NP := hide (fun W => parseC t W zt)
  unfold tailW
  generalize (numR a.data.toList).1 = na at *
  generalize (numR b.data.toList).1 = ns at *
  generalize (numR c.data.toList).1 = nq at *
  generalize (numR a.data.toList).2 = oa at *
  generalize (numR b.data.toList).2 = ob at *
  generalize (numR c.data.toList).2 = oc at *
  subst ka kb kc
  have nb0 : Below w.heap.size w (w.alloc (.cells #[.int .i64 0, .int .i64 0, .slice none 0 0, .int .i64 0, .int .i64 0] 27)) := (Below.refl _ _).alloc (Nat.le_refl _) _
  have nb1 : Below (w.alloc (.cells #[.int .i64 0, .int .i64 0, .slice none 0 0, .int .i64 0, .int .i64 0] 27)).heap.size (w.alloc (.cells #[.int .i64 0, .int .i64 0, .slice none 0 0, .int .i64 0, .int .i64 0] 27)) ((w.alloc (.cells #[.int .i64 0, .int .i64 0, .slice none 0 0, .int .i64 0, .int .i64 0] 27)).alloc (.cells #[.int .i64 2, .int .i64 0, .slice none 0 0, .int .i64 0, .int .i64 0] 27)) := (Below.refl _ _).alloc (Nat.le_refl _) _
  have bR : Box 0 #[.int .i64 0, .int .i64 0, .slice none 0 0, .int .i64 0, .int .i64 0] 27 ((w.alloc (.cells #[.int .i64 0, .int .i64 0, .slice none 0 0, .int .i64 0, .int .i64 0] 27)).alloc (.cells #[.int .i64 2, .int .i64 0, .slice none 0 0, .int .i64 0, .int .i64 0] 27)) w.heap.size := (newBox (Nat.zero_le _)).keep nb1
  have nb := nb0.trans (nb1.mono nb0.size)
  clear nb0 nb1
  have bX : Box 0 #[.int .i64 2, .int .i64 0, .slice none 0 0, .int .i64 0, .int .i64 0] 27 ((w.alloc (.cells #[.int .i64 0, .int .i64 0, .slice none 0 0, .int .i64 0, .int .i64 0] 27)).alloc (.cells #[.int .i64 2, .int .i64 0, .slice none 0 0, .int .i64 0, .int .i64 0] 27)) (w.heap.size + 1) := by
    have := newBox (W := w.alloc (.cells #[.int .i64 0, .int .i64 0, .slice none 0 0, .int .i64 0, .int .i64 0] 27)) (cs := #[.int .i64 2, .int .i64 0, .slice none 0 0, .int .i64 0, .int .i64 0]) (T := 27) (lo := 0) (Nat.zero_le _)
    simpa using this
  have d0 := cell_keep nb h0
  have d2 := cell_keep nb h2
  have HC := hide (And.intro h1 (And.intro h3 (And.intro h4 h5)))
  clear h0 h1 h2 h3 h4 h5
  have HB := hide nb
  have HX := hide bX
  have HR := hide bR
  clear nb bX bR
  go_enter Tryz.func28, Tryz.ntmps28
  go_wp2_with fail
  have bX := unhide HX
  have bR := unhide HR
  clear HX HR d0 d2
  generalize (w.alloc (.cells #[.int .i64 0, .int .i64 0, .slice none 0 0, .int .i64 0, .int .i64 0] 27)).alloc (.cells #[.int .i64 2, .int .i64 0, .slice none 0 0, .int .i64 0, .int .i64 0] 27) = W1 at *
  have hsx : w.heap.size < w.heap.size + 1 := by omega
  generalize w.heap.size + 1 = sx at *
  refine (unhide NP _).mono ?_
  rintro e w0 ⟨v, fl, rfl, hcase, hb⟩
  obtain ⟨ms, hm, hwf, O⟩ : ∃ ms : List Int, ((modelP t.data.toList = some ms) ∨ (modelP t.data.toList = none ∧ vecFault ms ≠ 0)) ∧ (∀ z ∈ ms, (Lit.int .i64 z).wf = true) ∧ w0.ownsRow W1.heap.size 2 1 v ms.length (ms.map (Value.int .i64)) := by
    rcases hcase with ⟨-, ms, h1, h2, h3⟩ | ⟨-, h1, ms, h2, h3, h4⟩
    · exact ⟨ms, Or.inl h1, h2, h3⟩
    · exact ⟨ms, Or.inr ⟨h1, h2⟩, h3, h4⟩
  have HM := hide hm
  clear hm hcase
  have hX0 := bX.lt
  have HV0 : Hid ((Lay.sl Lay.int).LiesIn w0 [v] ms (sx + 1) w0.heap.size) := ((Lay.ownInts hwf (own_big O) O).mono (lo' := sx + 1) (by omega) (Nat.le_refl _)).lies
  obtain ⟨a2, p2, rfl⟩ := own_shape O
  replace bX := bX.keep hb
  replace bR := bR.keep hb
  replace HB := hide ((unhide HB).trans (hb.mono (unhide HB).size))
  clear hb hwf O hX0
  have x0 := bX.at 0 _ rfl
  have x1 := bX.at 1 _ rfl
  have x2 := bX.at 2 _ rfl
  have x3 := bX.at 3 _ rfl
  have x4 := bX.at 4 _ rfl
  have xf := bX.soft
  have xl := bX.lt
  have HX := hide bX
  have HR := hide bR
  clear bX bR
  simp only [List.getElem_toArray, List.getElem_cons_zero, List.getElem_cons_succ] at x0 x1 x2 x3 x4
  go_wp2_with fail
  obtain ⟨bX, bR, hB1, hV2⟩ := storeP (.int .i64 1) (.slice a2 ms.length p2) hsx (unhide HX) (unhide HR) (unhide HB) (unhide HV0)
  have HB1 := hide hB1
  have HV2 := hide hV2
  clear hB1 hV2 HX HR HB HV0 x0 x1 x2 x3 x4 xf xl
  generalize (w0.setCell ⟨sx, 0, none⟩ (.int .i64 1)).setCell ⟨sx, 2, none⟩ (.slice a2 ms.length p2) = W2 at *
  generalize ms.length = ml at *
  have HX := hide bX
  have HR := hide bR
  clear bX bR
  obtain ⟨g1, g3, g4, g5⟩ := unhide HC
  have k1 := cell_keep (unhide HB1) g1
  have k3 := cell_keep (unhide HB1) g3
  have k4 := cell_keep (unhide HB1) g4
  have k5 := cell_keep (unhide HB1) g5
  clear g1 g3 g4 g5 HC
  refine wp_region_noPanic ?_
  refine wp_region_held_drew (S := fun w' => Below W2.heap.size W2 w') (by kernel_rfl) (Below.refl _ _).drew (fun hHeld => ?_)
  have hDz0 : W2.heap.size ≤ W2.drew.heap.size := Nat.le_refl _
  generalize W2.drew = wD at hHeld hDz0 ⊢
  have hDz : W2.heap.size ≤ wD.heap.size := hDz0
  refine wpAnyH_take (i := 0) (oi := { dst := some 33, op := Go.Op.move (Go.Operand.tmp 0), type := 57, pos := "l03_write.go:85", after := #[], guard := none }) (v := ?vp0) rfl (by kernel_rfl) (by kernel_rfl) (by kernel_rfl) (fun _ _ _ h => h) (Or.inl ⟨by rfl, ?hp0⟩) hHeld ?rp0
  case hp0 =>
    intro wS hSw
    (try dsimp only at hSw)
    go_simp
    try with_reducible rfl
  case rp0 =>
  simp only [Act.put, List.setIfInBounds_toArray, List.set_cons_zero, List.set_cons_succ]
  refine wpAnyH_take (i := 1) (oi := { dst := some 34, op := Go.Op.indexAddr 57 (Go.Operand.tmp 33) (Go.Operand.const (Go.Value.int Go.IntKind.i64 1)), type := 0, pos := "l03_write.go:85", after := #[{ on := 0, ground := Go.Ground.data }], guard := none }) (v := ?vp1) rfl (by kernel_rfl) (by kernel_rfl) (by kernel_rfl) (fun _ _ _ h => h) (Or.inl ⟨by rfl, ?hp1⟩) hHeld ?rp1
  case hp1 =>
    intro wS hSw
    (try dsimp only at hSw)
    go_simp
    try with_reducible rfl
  case rp1 =>
  simp only [Act.put, List.setIfInBounds_toArray, List.set_cons_zero, List.set_cons_succ]
  refine wpAnyH_take (i := 2) (oi := { dst := some 35, op := Go.Op.load 9 (Go.Operand.tmp 34), type := 9, pos := "l03_write.go:85", after := #[{ on := 1, ground := Go.Ground.data }], guard := none }) (v := ?vp2) rfl (by kernel_rfl) (by kernel_rfl) (by kernel_rfl) (fun _ _ _ h => h) (Or.inl ⟨by rfl, ?hp2⟩) hHeld ?rp2
  case hp2 =>
    intro wS hSw
    have y1 := cell_keep hSw k1
    clear hSw
    (try dsimp only at hSw)
    go_simp
    try with_reducible rfl
  case rp2 =>
  simp only [Act.put, List.setIfInBounds_toArray, List.set_cons_zero, List.set_cons_succ]
  refine wpAnyH_take (i := 4) (oi := { dst := some 37, op := Go.Op.move (Go.Operand.tmp 0), type := 57, pos := "l03_write.go:85", after := #[], guard := none }) (v := ?vp4) rfl (by kernel_rfl) (by kernel_rfl) (by kernel_rfl) (fun _ _ _ h => h) (Or.inl ⟨by rfl, ?hp4⟩) hHeld ?rp4
  case hp4 =>
    intro wS hSw
    (try dsimp only at hSw)
    go_simp
    try with_reducible rfl
  case rp4 =>
  simp only [Act.put, List.setIfInBounds_toArray, List.set_cons_zero, List.set_cons_succ]
  refine wpAnyH_take (i := 5) (oi := { dst := some 38, op := Go.Op.slice 57 (Go.Operand.tmp 37) (some (Go.Operand.const (Go.Value.int Go.IntKind.i64 3))) none none, type := 57, pos := "l03_write.go:85", after := #[{ on := 4, ground := Go.Ground.data }], guard := none }) (v := ?vp5) rfl (by kernel_rfl) (by kernel_rfl) (by kernel_rfl) (fun _ _ _ h => h) (Or.inl ⟨by rfl, ?hp5⟩) hHeld ?rp5
  case hp5 =>
    intro wS hSw
    (try dsimp only at hSw)
    go_simp
    try with_reducible rfl
  case rp5 =>
  simp only [Act.put, List.setIfInBounds_toArray, List.set_cons_zero, List.set_cons_succ]
  refine wpAnyH_ready (rs := [3]) (by kernel_rfl) (by simp) ?_
  refine AllReadyH.cons (o := { dst := some 36, op := Go.Op.buildSlice 57 2 #[(0, Go.Operand.const (Go.Value.string { data := #[100, 114, 111, 112] })), (1, Go.Operand.tmp 35)], type := 57, pos := "l03_write.go:85", after := #[{ on := 2, ground := Go.Ground.data }], guard := none }) rfl (fun K hK => ?_) AllReadyH.nil
  go_simp
  refine hK.out _ _ (hHeld.alloc hHeld.size _) (fun hHeld => ?_)
  clear hK K
  try simp only [Act.put, List.setIfInBounds_toArray, List.set_cons_zero, List.set_cons_succ]
  refine wpAnyH_ready (rs := [6]) (by kernel_rfl) (by simp) ?_
  refine AllReadyH.cons (o := { dst := some 39, op := Go.Op.call { callee := Go.Callee.builtin Go.Builtin.append, args := #[Go.Operand.tmp 36, Go.Operand.tmp 38], argTypes := #[57, 57] }, type := 57, pos := "l03_write.go:85", after := #[{ on := 3, ground := Go.Ground.data }, { on := 5, ground := Go.Ground.data }], guard := none }) rfl (fun K hK => ?_) AllReadyH.nil
  have hne3 : ¬ cap = 3 := by omega
  rw [if_neg hne3]
  have hnews : ∀ (j : Nat) (u : Value), [Value.string ⟨#[98, 121]⟩, .string b, .string c][j]? = some u → (wD.alloc (.cells #[.string ⟨#[100, 114, 111, 112]⟩, .string a] 9)).cell? ((⟨g, 3, none⟩ : Addr).add j) = some u := by
    intro j u hj
    rcases j with _ | _ | _ | j
    · obtain rfl : Value.string ⟨#[98, 121]⟩ = u := by simpa using hj
      exact cell_keep hHeld k3
    · obtain rfl : Value.string b = u := by simpa using hj
      exact cell_keep hHeld k4
    · obtain rfl : Value.string c = u := by simpa using hj
      exact cell_keep hHeld k5
    · simp at hj
  have O6 : (wD.alloc (.cells #[.string ⟨#[100, 114, 111, 112]⟩, .string a] 9)).ownsRow wD.heap.size 9 1 (.slice (some ⟨wD.heap.size, 0, none⟩) 2 2) 2 [.string ⟨#[100, 114, 111, 112]⟩, .string a] := World.ownsRow_lit wD #[.string ⟨#[100, 114, 111, 112]⟩, .string a] 2 (Nat.le_refl _) (by unfold maxLen; omega) rfl
  refine step_append_at O6 ⟨g, 3, none⟩ 3 (cap - 3) [.string ⟨#[98, 121]⟩, .string b, .string c] rfl _ _ rfl rfl rfl rfl hnews (by simp [Value.oneCell']) (by omega) (by omega) (by simp) ?_
  rintro g7 d7 w7 O7 hb7 hl7 hz7
  refine hK.out _ _ (hHeld.trans (hb7.mono (by have := hDz; omega))) (fun hHeld => ?_)
  clear hK K
  try simp only [Act.put, List.setIfInBounds_toArray, List.set_cons_zero, List.set_cons_succ]
  refine wpAnyH_take (i := 7) (oi := { dst := some 0, op := Go.Op.assign (Go.Operand.tmp 39), type := 57, pos := "l03_write.go:85", after := #[{ on := 6, ground := Go.Ground.data }, { on := 6, ground := Go.Ground.chain }, { on := 0, ground := Go.Ground.phase }, { on := 1, ground := Go.Ground.phase }, { on := 2, ground := Go.Ground.phase }, { on := 3, ground := Go.Ground.phase }, { on := 4, ground := Go.Ground.phase }, { on := 5, ground := Go.Ground.phase }, { on := 6, ground := Go.Ground.phase }], guard := none }) (v := ?vp7) rfl (by kernel_rfl) (by kernel_rfl) (by kernel_rfl) (fun _ _ _ h => h) (Or.inl ⟨by rfl, ?hp7⟩) hHeld ?rp7
  case hp7 =>
    intro wS hSw
    (try dsimp only at hSw)
    go_simp
    try with_reducible rfl
  case rp7 =>
  simp only [Act.put, List.setIfInBounds_toArray, List.set_cons_zero]
  refine wpAnyH_done (by kernel_rfl) ?_ _
  refine NoPanic.normal ?_
  have d0 : w7.cell? ⟨g7, 0, none⟩ = some (.string ⟨#[100, 114, 111, 112]⟩) := (O7.cellAt 0 (by omega)).trans rfl
  have d1 : w7.cell? ⟨g7, 1, none⟩ = some (.string a) := (O7.cellAt 1 (by omega)).trans rfl
  have d2 : w7.cell? ⟨g7, 2, none⟩ = some (.string ⟨#[98, 121]⟩) := (O7.cellAt 2 (by omega)).trans rfl
  have d3 : w7.cell? ⟨g7, 3, none⟩ = some (.string b) := (O7.cellAt 3 (by omega)).trans rfl
  have d4 : w7.cell? ⟨g7, 4, none⟩ = some (.string c) := (O7.cellAt 4 (by omega)).trans rfl
  have bX := (unhide HX).keep hHeld
  have bR := (unhide HR).keep hHeld
  have HB := hide ((unhide HB1).trans (hHeld.mono (unhide HB1).size))
  have HVI := hide (((unhide HV2).later hHeld).mono (Nat.le_refl _) (hi' := w7.heap.size) hHeld.size)
  clear O7 O6 hb7 hHeld HX HR HB1 HV2 k1 k3 k4 k5 hnews hDz hDz0 hl7 hz7
  have HX := hide bX
  have HR := hide bR
  clear bX bR
  go_wp2_with fail
  have bX := unhide HX
  have bR := unhide HR
  clear HX HR d0 d2
  refine (unhide NA _).mono ?_
  rintro e w1 ⟨rfl, hb⟩
  replace bX := bX.keep hb
  replace bR := bR.keep hb
  replace HB := hide ((unhide HB).trans (hb.mono (unhide HB).size))
  replace HVI := hide (((unhide HVI).later hb).mono (Nat.le_refl _) (hi' := w1.heap.size) hb.size)
  replace d3 := cell_keep hb d3
  replace d4 := cell_keep hb d4
  clear hb d1
  have HX := hide bX
  have HR := hide bR
  clear bX bR
  go_wp2_with fail
  have bX := unhide HX
  have bR := unhide HR
  clear HX HR
  refine (unhide NB _).mono ?_
  rintro e w2 ⟨rfl, hb⟩
  replace bX := bX.keep hb
  replace bR := bR.keep hb
  replace HB := hide ((unhide HB).trans (hb.mono (unhide HB).size))
  replace HVI := hide (((unhide HVI).later hb).mono (Nat.le_refl _) (hi' := w2.heap.size) hb.size)
  replace d4 := cell_keep hb d4
  clear hb d3
  have HX := hide bX
  have HR := hide bR
  clear bX bR
  go_wp2_with fail
  have bX := unhide HX
  have bR := unhide HR
  clear HX HR
  refine (unhide NC _).mono ?_
  rintro e w3 ⟨rfl, hb⟩
  replace bX := bX.keep hb
  replace bR := bR.keep hb
  replace HB := hide ((unhide HB).trans (hb.mono (unhide HB).size))
  replace HVI := hide (((unhide HVI).later hb).mono (Nat.le_refl _) (hi' := w3.heap.size) hb.size)
  clear hb d4
  have x0 := bX.at 0 _ rfl
  have x1 := bX.at 1 _ rfl
  have x2 := bX.at 2 _ rfl
  have x3 := bX.at 3 _ rfl
  have x4 := bX.at 4 _ rfl
  have xf := bX.soft
  have xl := bX.lt
  have HX := hide bX
  have HR := hide bR
  clear bX bR
  simp only [List.getElem_toArray, List.getElem_cons_zero, List.getElem_cons_succ] at x0 x1 x2 x3 x4
  go_wp2_with fail
  obtain ⟨bX, bR, hB1, hV2⟩ := storeX (.int .i64 na) (.int .i64 ns) (.int .i64 nq) hsx (unhide HX) (unhide HR) (unhide HB) (unhide HVI)
  have HB1 := hide hB1
  have HV2 := hide hV2
  clear hB1 hV2
  clear HX HR HB HVI x0 x1 x2 x3 x4 xf xl
  generalize ((w3.setCell ⟨sx, 1, none⟩ (.int .i64 na)).setCell ⟨sx, 3, none⟩ (.int .i64 ns)).setCell ⟨sx, 4, none⟩ (.int .i64 nq) = W2 at *
  refine wp_region_noPanic ?_
  refine wp_region_held_drew (S := fun w' => Below w.heap.size w w' ∧ Box 0 #[.int .i64 1, .int .i64 na, .slice a2 ml p2, .int .i64 ns, .int .i64 nq] 27 w' sx ∧ (∃ cs : Array Value, cs.size = 5 ∧ Box 0 cs 27 w' w.heap.size) ∧ (Lay.sl Lay.int).LiesIn w' [.slice a2 ml p2] ms (sx + 1) W2.heap.size ∧ W2.heap.size ≤ w'.heap.size) (by kernel_rfl) ⟨(unhide HB1).drew, bX.drew, ⟨_, rfl, bR.drew⟩, unhide HV2, Nat.le_refl _⟩ (fun hHeld => ?_)
  generalize W2.drew = wD at hHeld ⊢
  refine wpAnyH_take (i := 0) (oi := { dst := some 83, op := Go.Op.load 27 (Go.Operand.tmp 4), type := 27, pos := "l03_write.go:96", after := #[], guard := none }) (v := ?v0) rfl (by kernel_rfl) (by kernel_rfl) (by kernel_rfl) (fun _ _ _ h => h) (Or.inl ⟨by rfl, ?h0⟩) hHeld ?r0
  case h0 =>
    intro wS hSw
    have y0 := hSw.2.1.at 0 _ rfl
    have y1 := hSw.2.1.at 1 _ rfl
    have y2 := hSw.2.1.at 2 _ rfl
    have y3 := hSw.2.1.at 3 _ rfl
    have y4 := hSw.2.1.at 4 _ rfl
    simp only [List.getElem_toArray, List.getElem_cons_zero, List.getElem_cons_succ] at y0 y1 y2 y3 y4
    clear hSw
    (try dsimp only at hSw)
    go_simp
    try with_reducible rfl
  case r0 =>
  simp only [Act.put, List.setIfInBounds_toArray, List.set_cons_zero, List.set_cons_succ]
  refine wpAnyH_take (i := 1) (oi := { dst := some 84, op := Go.Op.move (Go.Operand.tmp 8), type := 4, pos := "l03_write.go:96", after := #[], guard := none }) (v := ?v1) rfl (by kernel_rfl) (by kernel_rfl) (by kernel_rfl) (fun _ _ _ h => h) (Or.inl ⟨by rfl, ?h1⟩) hHeld ?r1
  case h1 =>
    intro wS hSw
    (try dsimp only at hSw)
    go_simp
    try with_reducible rfl
  case r1 =>
  simp only [Act.put, List.setIfInBounds_toArray, List.set_cons_zero, List.set_cons_succ]
  refine wpAnyH_take (i := 2) (oi := { dst := some 85, op := Go.Op.move (Go.Operand.tmp 84), type := 4, pos := "l03_write.go:96", after := #[{ on := 1, ground := Go.Ground.data }], guard := none }) (v := ?v2) rfl (by kernel_rfl) (by kernel_rfl) (by kernel_rfl) (fun _ _ _ h => h) (Or.inl ⟨by rfl, ?h2⟩) hHeld ?r2
  case h2 =>
    intro wS hSw
    (try dsimp only at hSw)
    go_simp
    try with_reducible rfl
  case r2 =>
  simp only [Act.put, List.setIfInBounds_toArray, List.set_cons_zero, List.set_cons_succ]
  refine wpAnyH_take (i := 3) (oi := { dst := some 86, op := Go.Op.move (Go.Operand.tmp 10), type := 4, pos := "l03_write.go:96", after := #[{ on := 2, ground := Go.Ground.guard }], guard := some (2, true) }) (v := ?v3) rfl (by kernel_rfl) (by kernel_rfl) (by kernel_rfl) (fun _ _ _ h => h) (Or.inl ⟨by rfl, ?h3⟩) hHeld ?r3
  case h3 =>
    intro wS hSw
    (try dsimp only at hSw)
    go_simp
    try with_reducible rfl
  case r3 =>
  simp only [Act.put, List.setIfInBounds_toArray, List.set_cons_zero, List.set_cons_succ]
  refine wpAnyH_take (i := 4) (oi := { dst := some 87, op := Go.Op.pick (Go.Operand.tmp 85) (Go.Operand.tmp 86) (Go.Operand.const (Go.Value.bool false)), type := 4, pos := "l03_write.go:96", after := #[{ on := 2, ground := Go.Ground.data }, { on := 3, ground := Go.Ground.data }], guard := none }) (v := ?v4) rfl (by kernel_rfl) (by kernel_rfl) (by kernel_rfl) (fun _ _ _ h => h) (Or.inl ⟨by rfl, ?h4⟩) hHeld ?r4
  case h4 =>
    intro wS hSw
    (try dsimp only at hSw)
    go_simp
    try with_reducible rfl
  case r4 =>
  simp only [Act.put, List.setIfInBounds_toArray, List.set_cons_zero, List.set_cons_succ]
  refine wpAnyH_take (i := 5) (oi := { dst := some 88, op := Go.Op.move (Go.Operand.tmp 87), type := 4, pos := "l03_write.go:96", after := #[{ on := 4, ground := Go.Ground.data }, { on := 2, ground := Go.Ground.chain }], guard := none }) (v := ?v5) rfl (by kernel_rfl) (by kernel_rfl) (by kernel_rfl) (fun _ _ _ h => h) (Or.inl ⟨by rfl, ?h5⟩) hHeld ?r5
  case h5 =>
    intro wS hSw
    (try dsimp only at hSw)
    go_simp
    try with_reducible rfl
  case r5 =>
  simp only [Act.put, List.setIfInBounds_toArray, List.set_cons_zero, List.set_cons_succ]
  refine wpAnyH_take (i := 6) (oi := { dst := some 89, op := Go.Op.move (Go.Operand.tmp 12), type := 4, pos := "l03_write.go:96", after := #[{ on := 5, ground := Go.Ground.guard }], guard := some (5, true) }) (v := ?v6) rfl (by kernel_rfl) (by kernel_rfl) (by kernel_rfl) (fun _ _ _ h => h) (Or.inl ⟨by rfl, ?h6⟩) hHeld ?r6
  case h6 =>
    intro wS hSw
    (try dsimp only at hSw)
    go_simp
    try with_reducible rfl
  case r6 =>
  simp only [Act.put, List.setIfInBounds_toArray, List.set_cons_zero, List.set_cons_succ]
  refine wpAnyH_take (i := 7) (oi := { dst := some 90, op := Go.Op.pick (Go.Operand.tmp 88) (Go.Operand.tmp 89) (Go.Operand.const (Go.Value.bool false)), type := 4, pos := "l03_write.go:96", after := #[{ on := 5, ground := Go.Ground.data }, { on := 6, ground := Go.Ground.data }], guard := none }) (v := ?v7) rfl (by kernel_rfl) (by kernel_rfl) (by kernel_rfl) (fun _ _ _ h => h) (Or.inl ⟨by rfl, ?h7⟩) hHeld ?r7
  case h7 =>
    intro wS hSw
    (try dsimp only at hSw)
    go_simp
    try with_reducible rfl
  case r7 =>
  simp only [Act.put, List.setIfInBounds_toArray, List.set_cons_zero, List.set_cons_succ]
  refine wpAnyH_take (i := 8) (oi := { dst := some 91, op := Go.Op.move (Go.Operand.tmp 90), type := 4, pos := "l03_write.go:96", after := #[{ on := 7, ground := Go.Ground.data }, { on := 5, ground := Go.Ground.chain }], guard := none }) (v := ?v8) rfl (by kernel_rfl) (by kernel_rfl) (by kernel_rfl) (fun _ _ _ h => h) (Or.inl ⟨by rfl, ?h8⟩) hHeld ?r8
  case h8 =>
    intro wS hSw
    (try dsimp only at hSw)
    go_simp
    try with_reducible rfl
  case r8 =>
  simp only [Act.put, List.setIfInBounds_toArray, List.set_cons_zero, List.set_cons_succ]
  refine wpAnyH_ready (rs := [9]) (by kernel_rfl) (by simp) ?_
  refine AllReadyH.cons (o := { dst := some 92, op := Go.Op.call { callee := Go.Callee.value (Go.Operand.func 37), args := #[Go.Operand.tmp 4], argTypes := #[48] }, type := 2, pos := "l03_write.go:96", after := #[{ on := 8, ground := Go.Ground.chain }, { on := 8, ground := Go.Ground.guard }], guard := some (8, true) }) rfl (fun K hK => ?_) AllReadyH.nil
  go_simp
  go_at_call 37
  refine (l3Fault sx 1 na _ ns nq ms _ ⟨hHeld.2.1.at 0 _ rfl, hHeld.2.1.at 1 _ rfl, hHeld.2.1.at 2 _ rfl, hHeld.2.1.at 3 _ rfl, hHeld.2.1.at 4 _ rfl⟩ (Lay.ints_reads hHeld.2.2.2.1.reads)).mono ?_
  rintro e wE ⟨rfl, hwe⟩
  subst hwe
  try go_wp2_with fail
  refine hK.out _ _ hHeld (fun hHeld => ?_)
  clear hK K
  try simp only [Act.put, List.setIfInBounds_toArray, List.set_cons_zero, List.set_cons_succ]
  refine wpAnyH_take (i := 10) (oi := { dst := some 93, op := Go.Op.binOp Go.BinOp.eql 2 (Go.Operand.tmp 92) (Go.Operand.const (Go.Value.int Go.IntKind.i64 0)) 2, type := 4, pos := "l03_write.go:96", after := #[{ on := 9, ground := Go.Ground.data }, { on := 8, ground := Go.Ground.guard }, { on := 12, ground := Go.Ground.gcOnly Go.Departure.lateStores }], guard := some (8, true) }) (v := ?v10) rfl (by kernel_rfl) (by kernel_rfl) (by kernel_rfl) (fun _ _ _ h => h) (Or.inl ⟨by rfl, ?h10⟩) hHeld ?r10
  case h10 =>
    intro wS hSw
    (try dsimp only at hSw)
    go_simp
    try with_reducible rfl
  case r10 =>
  simp only [Act.put, List.setIfInBounds_toArray, List.set_cons_zero, List.set_cons_succ]
  refine wpAnyH_take (i := 11) (oi := { dst := some 94, op := Go.Op.pick (Go.Operand.tmp 91) (Go.Operand.tmp 93) (Go.Operand.const (Go.Value.bool false)), type := 4, pos := "l03_write.go:96", after := #[{ on := 8, ground := Go.Ground.data }, { on := 10, ground := Go.Ground.data }, { on := 12, ground := Go.Ground.gcOnly Go.Departure.lateStores }], guard := none }) (v := ?v11) rfl (by kernel_rfl) (by kernel_rfl) (by kernel_rfl) (fun _ _ _ h => h) (Or.inl ⟨by rfl, ?h11⟩) hHeld ?r11
  case h11 =>
    intro wS hSw
    (try dsimp only at hSw)
    go_simp
    try with_reducible rfl
  case r11 =>
  simp only [Act.put, List.setIfInBounds_toArray, List.set_cons_zero, List.set_cons_succ]
  refine wpAnyH_ready (rs := [12]) (by kernel_rfl) (by simp) ?_
  refine AllReadyH.cons (o := { dst := none, op := Go.Op.store 27 (Go.Operand.tmp 2) (Go.Operand.tmp 83), type := 0, pos := "l03_write.go:96", after := #[{ on := 0, ground := Go.Ground.data }, { on := 9, ground := Go.Ground.chain }, { on := 0, ground := Go.Ground.phase }, { on := 1, ground := Go.Ground.textOnly Go.Departure.lateStores }, { on := 2, ground := Go.Ground.textOnly Go.Departure.lateStores }, { on := 3, ground := Go.Ground.textOnly Go.Departure.lateStores }, { on := 4, ground := Go.Ground.textOnly Go.Departure.lateStores }, { on := 5, ground := Go.Ground.textOnly Go.Departure.lateStores }, { on := 6, ground := Go.Ground.textOnly Go.Departure.lateStores }, { on := 7, ground := Go.Ground.textOnly Go.Departure.lateStores }, { on := 8, ground := Go.Ground.textOnly Go.Departure.lateStores }, { on := 9, ground := Go.Ground.textOnly Go.Departure.lateStoresUnsure }, { on := 10, ground := Go.Ground.textOnly Go.Departure.lateStores }, { on := 11, ground := Go.Ground.textOnly Go.Departure.lateStores }], guard := none }) rfl (fun K hK => ?_) AllReadyH.nil
  obtain ⟨hb9, bX9, ⟨cs9, hs9, bR9⟩, hv9, hz9⟩ := hHeld
  obtain ⟨q0, q1, q2, q3, q4, rfl⟩ : ∃ q0 q1 q2 q3 q4 : Value, cs9 = #[q0, q1, q2, q3, q4] := by
    obtain ⟨l⟩ := cs9
    match l, hs9 with
    | [q0, q1, q2, q3, q4], _ => exact ⟨q0, q1, q2, q3, q4, rfl⟩
  have e0 : wE.cell? ⟨w.heap.size, 0, none⟩ = some q0 := bR9.at 0 _ rfl
  have e1 : wE.cell? ⟨w.heap.size, 1, none⟩ = some q1 := bR9.at 1 _ rfl
  have e2 : wE.cell? ⟨w.heap.size, 2, none⟩ = some q2 := bR9.at 2 _ rfl
  have e3 : wE.cell? ⟨w.heap.size, 3, none⟩ = some q3 := bR9.at 3 _ rfl
  have e4 : wE.cell? ⟨w.heap.size, 4, none⟩ = some q4 := bR9.at 4 _ rfl
  have ef : ∀ o, wE.frozen? ⟨w.heap.size, o, none⟩ = false := bR9.soft
  have el : w.heap.size < wE.heap.size := bR9.lt
  go_simp
  try go_wp2_with fail
  refine hK.out _ _ (storeR (vs := [.int .i64 1, .int .i64 na, .slice a2 ml p2, .int .i64 ns, .int .i64 nq]) hb9 bX9 bR9 hv9 hz9 (by omega) rfl) (fun hHeld => ?_)
  clear hK K
  try simp only [Act.put, List.setIfInBounds_toArray, List.set_cons_zero, List.set_cons_succ]
  refine wpAnyH_take (i := 13) (oi := { dst := some 3, op := Go.Op.assign (Go.Operand.tmp 94), type := 4, pos := "l03_write.go:96", after := #[{ on := 11, ground := Go.Ground.data }, { on := 12, ground := Go.Ground.chain }, { on := 0, ground := Go.Ground.phase }, { on := 1, ground := Go.Ground.phase }, { on := 2, ground := Go.Ground.phase }, { on := 3, ground := Go.Ground.phase }, { on := 4, ground := Go.Ground.phase }, { on := 5, ground := Go.Ground.phase }, { on := 6, ground := Go.Ground.phase }, { on := 7, ground := Go.Ground.phase }, { on := 8, ground := Go.Ground.phase }, { on := 9, ground := Go.Ground.phase }, { on := 10, ground := Go.Ground.phase }, { on := 11, ground := Go.Ground.phase }, { on := 12, ground := Go.Ground.phase }], guard := none }) (v := ?v13) rfl (by kernel_rfl) (by kernel_rfl) (by kernel_rfl) (fun _ _ _ h => h) (Or.inl ⟨by rfl, ?h13⟩) hHeld ?r13
  case h13 =>
    intro wS hSw
    (try dsimp only at hSw)
    go_simp
    try with_reducible rfl
  case r13 =>
  simp only [Act.put, List.setIfInBounds_toArray, List.set_cons_zero, List.set_cons_succ]
  refine wpAnyH_done (by kernel_rfl) ?_ _
  refine NoPanic.normal ?_
  have HS := hide hHeld
  clear hHeld
  go_wp2_with fail
  refine bodyPost_ret (v := .tuple #[.agg #[.int .i64 1, .int .i64 na, .slice a2 ml p2, .int .i64 ns, .int .i64 nq], .bool (writeFault 1 na ms ns nq == 0)]) (by simp [results, Tryz.results28, go_sem, e0, e1, e2, e3, e4]) rfl ?_
  obtain ⟨s1, -, -, s4, s5⟩ := unhide HS
  refine ⟨ms, unhide HM, ?_⟩
  refine ⟨[.int .i64 1, .int .i64 na, .slice a2 ml p2, .int .i64 ns, .int .i64 nq], rfl, ?_, s1⟩
  have fa : (Lit.int .i64 na).wf = true := wf_of_bd (by omega)
  have fb : (Lit.int .i64 ns).wf = true := wf_of_bd (by omega)
  have fc : (Lit.int .i64 nq).wf = true := wf_of_bd (by omega)
  exact readsR (x := ⟨1, na, ms, ns, nq⟩) (s4.mono (by omega) s5) (by rfl) fa fb fc

end Go.Proofs.YtjofcmdlcoganaaGreatDoor

namespace Go.Proofs.YtjofcmdlcoganaaGreatDoor
open Go.RowKit

set_option maxRecDepth 100000 in
set_option maxHeartbeats 4000000 in
theorem l3Read_other (g cap : Nat) (a t b c d : ByteArray) (w : World) (hcap : 6 ≤ cap) (h0 : w.cell? ⟨g, 0, none⟩ = some (.string ⟨#[112, 117, 116]⟩)) (h1 : w.cell? ⟨g, 1, none⟩ = some (.string a)) (h2 : w.cell? ⟨g, 2, none⟩ = some (.string t)) (h3 : w.cell? ⟨g, 3, none⟩ = some (.string d)) (h4 : w.cell? ⟨g, 4, none⟩ = some (.string b)) (h5 : w.cell? ⟨g, 5, none⟩ = some (.string c))
    (za : a.size ≤ 1048576) (zt : t.size ≤ 1048576) (zb : b.size ≤ 1048576) (zc : c.size ≤ 1048576) (hby : d ≠ ⟨#[98, 121]⟩) :
    Calls Tryz.prog 28 #[.slice (some ⟨g, 0, none⟩) 6 cap] w fun e w' => ∃ ms, ((modelP t.data.toList = some ms) ∨ (modelP t.data.toList = none ∧ vecFault ms ≠ 0)) ∧ ToldR w w' e ⟨1, 0, ms, 0, 0⟩ false := by
  have bda := numR_bd a.data.toList
  have bdb := numR_bd b.data.toList
  have bdc := numR_bd c.data.toList
  have NA := hide (fun W => number a W za)
  have NB := hide (fun W => number b W zb)
  have NC := hide (fun W => number c W zc)
  have NP := hide (fun W => parseC t W zt)
  skip
  generalize (numR a.data.toList).1 = na at *
  generalize (numR b.data.toList).1 = ns at *
  generalize (numR c.data.toList).1 = nq at *
  generalize (numR a.data.toList).2 = oa at *
  generalize (numR b.data.toList).2 = ob at *
  generalize (numR c.data.toList).2 = oc at *
  have e0 : (d.toList == [98, 121]) = false := by rw [beq_eq_false_iff_ne]; exact fun h => hby (str_of_list h)
  have nb0 : Below w.heap.size w (w.alloc (.cells #[.int .i64 0, .int .i64 0, .slice none 0 0, .int .i64 0, .int .i64 0] 27)) := (Below.refl _ _).alloc (Nat.le_refl _) _
  have nb1 : Below (w.alloc (.cells #[.int .i64 0, .int .i64 0, .slice none 0 0, .int .i64 0, .int .i64 0] 27)).heap.size (w.alloc (.cells #[.int .i64 0, .int .i64 0, .slice none 0 0, .int .i64 0, .int .i64 0] 27)) ((w.alloc (.cells #[.int .i64 0, .int .i64 0, .slice none 0 0, .int .i64 0, .int .i64 0] 27)).alloc (.cells #[.int .i64 2, .int .i64 0, .slice none 0 0, .int .i64 0, .int .i64 0] 27)) := (Below.refl _ _).alloc (Nat.le_refl _) _
  have bR : Box 0 #[.int .i64 0, .int .i64 0, .slice none 0 0, .int .i64 0, .int .i64 0] 27 ((w.alloc (.cells #[.int .i64 0, .int .i64 0, .slice none 0 0, .int .i64 0, .int .i64 0] 27)).alloc (.cells #[.int .i64 2, .int .i64 0, .slice none 0 0, .int .i64 0, .int .i64 0] 27)) w.heap.size := (newBox (Nat.zero_le _)).keep nb1
  have nb := nb0.trans (nb1.mono nb0.size)
  clear nb0 nb1
  have bX : Box 0 #[.int .i64 2, .int .i64 0, .slice none 0 0, .int .i64 0, .int .i64 0] 27 ((w.alloc (.cells #[.int .i64 0, .int .i64 0, .slice none 0 0, .int .i64 0, .int .i64 0] 27)).alloc (.cells #[.int .i64 2, .int .i64 0, .slice none 0 0, .int .i64 0, .int .i64 0] 27)) (w.heap.size + 1) := by
    have := newBox (W := w.alloc (.cells #[.int .i64 0, .int .i64 0, .slice none 0 0, .int .i64 0, .int .i64 0] 27)) (cs := #[.int .i64 2, .int .i64 0, .slice none 0 0, .int .i64 0, .int .i64 0]) (T := 27) (lo := 0) (Nat.zero_le _)
    simpa using this
  have d0 := cell_keep nb h0
  have d2 := cell_keep nb h2
  have HC := hide (And.intro h1 (And.intro h3 (And.intro h4 h5)))
  clear h0 h1 h2 h3 h4 h5
  have HB := hide nb
  have HX := hide bX
  have HR := hide bR
  clear nb bX bR
  go_enter Tryz.func28, Tryz.ntmps28
  go_wp2_with fail
  have bX := unhide HX
  have bR := unhide HR
  clear HX HR d0 d2
  generalize (w.alloc (.cells #[.int .i64 0, .int .i64 0, .slice none 0 0, .int .i64 0, .int .i64 0] 27)).alloc (.cells #[.int .i64 2, .int .i64 0, .slice none 0 0, .int .i64 0, .int .i64 0] 27) = W1 at *
  have hsx : w.heap.size < w.heap.size + 1 := by omega
  generalize w.heap.size + 1 = sx at *
  refine (unhide NP _).mono ?_
  rintro e w0 ⟨v, fl, rfl, hcase, hb⟩
  obtain ⟨ms, hm, hwf, O⟩ : ∃ ms : List Int, ((modelP t.data.toList = some ms) ∨ (modelP t.data.toList = none ∧ vecFault ms ≠ 0)) ∧ (∀ z ∈ ms, (Lit.int .i64 z).wf = true) ∧ w0.ownsRow W1.heap.size 2 1 v ms.length (ms.map (Value.int .i64)) := by
    rcases hcase with ⟨-, ms, h1, h2, h3⟩ | ⟨-, h1, ms, h2, h3, h4⟩
    · exact ⟨ms, Or.inl h1, h2, h3⟩
    · exact ⟨ms, Or.inr ⟨h1, h2⟩, h3, h4⟩
  have HM := hide hm
  clear hm hcase
  have hX0 := bX.lt
  have HV0 : Hid ((Lay.sl Lay.int).LiesIn w0 [v] ms (sx + 1) w0.heap.size) := ((Lay.ownInts hwf (own_big O) O).mono (lo' := sx + 1) (by omega) (Nat.le_refl _)).lies
  obtain ⟨a2, p2, rfl⟩ := own_shape O
  replace bX := bX.keep hb
  replace bR := bR.keep hb
  replace HB := hide ((unhide HB).trans (hb.mono (unhide HB).size))
  clear hb hwf O hX0
  have x0 := bX.at 0 _ rfl
  have x1 := bX.at 1 _ rfl
  have x2 := bX.at 2 _ rfl
  have x3 := bX.at 3 _ rfl
  have x4 := bX.at 4 _ rfl
  have xf := bX.soft
  have xl := bX.lt
  have HX := hide bX
  have HR := hide bR
  clear bX bR
  simp only [List.getElem_toArray, List.getElem_cons_zero, List.getElem_cons_succ] at x0 x1 x2 x3 x4
  go_wp2_with fail
  obtain ⟨bX, bR, hB1, hV2⟩ := storeP (.int .i64 1) (.slice a2 ms.length p2) hsx (unhide HX) (unhide HR) (unhide HB) (unhide HV0)
  have HB1 := hide hB1
  have HV2 := hide hV2
  clear hB1 hV2 HX HR HB HV0 x0 x1 x2 x3 x4 xf xl
  generalize (w0.setCell ⟨sx, 0, none⟩ (.int .i64 1)).setCell ⟨sx, 2, none⟩ (.slice a2 ms.length p2) = W2 at *
  generalize ms.length = ml at *
  have HX := hide bX
  have HR := hide bR
  clear bX bR
  obtain ⟨g1, g3, g4, g5⟩ := unhide HC
  have k1 := cell_keep (unhide HB1) g1
  have k3 := cell_keep (unhide HB1) g3
  have k4 := cell_keep (unhide HB1) g4
  have k5 := cell_keep (unhide HB1) g5
  clear g1 g3 g4 g5 HC
  refine wp_region_noPanic ?_
  refine wp_region_held_drew (S := fun w' => Below W2.heap.size W2 w') (by kernel_rfl) (Below.refl _ _).drew (fun hHeld => ?_)
  have hDz0 : W2.heap.size ≤ W2.drew.heap.size := Nat.le_refl _
  generalize W2.drew = wD at hHeld hDz0 ⊢
  have hDz : W2.heap.size ≤ wD.heap.size := hDz0
  refine wpAnyH_take (i := 0) (oi := { dst := some 33, op := Go.Op.move (Go.Operand.tmp 0), type := 57, pos := "l03_write.go:85", after := #[], guard := none }) (v := ?vp0) rfl (by kernel_rfl) (by kernel_rfl) (by kernel_rfl) (fun _ _ _ h => h) (Or.inl ⟨by rfl, ?hp0⟩) hHeld ?rp0
  case hp0 =>
    intro wS hSw
    (try dsimp only at hSw)
    go_simp
    try with_reducible rfl
  case rp0 =>
  simp only [Act.put, List.setIfInBounds_toArray, List.set_cons_zero, List.set_cons_succ]
  refine wpAnyH_take (i := 1) (oi := { dst := some 34, op := Go.Op.indexAddr 57 (Go.Operand.tmp 33) (Go.Operand.const (Go.Value.int Go.IntKind.i64 1)), type := 0, pos := "l03_write.go:85", after := #[{ on := 0, ground := Go.Ground.data }], guard := none }) (v := ?vp1) rfl (by kernel_rfl) (by kernel_rfl) (by kernel_rfl) (fun _ _ _ h => h) (Or.inl ⟨by rfl, ?hp1⟩) hHeld ?rp1
  case hp1 =>
    intro wS hSw
    (try dsimp only at hSw)
    go_simp
    try with_reducible rfl
  case rp1 =>
  simp only [Act.put, List.setIfInBounds_toArray, List.set_cons_zero, List.set_cons_succ]
  refine wpAnyH_take (i := 2) (oi := { dst := some 35, op := Go.Op.load 9 (Go.Operand.tmp 34), type := 9, pos := "l03_write.go:85", after := #[{ on := 1, ground := Go.Ground.data }], guard := none }) (v := ?vp2) rfl (by kernel_rfl) (by kernel_rfl) (by kernel_rfl) (fun _ _ _ h => h) (Or.inl ⟨by rfl, ?hp2⟩) hHeld ?rp2
  case hp2 =>
    intro wS hSw
    have y1 := cell_keep hSw k1
    clear hSw
    (try dsimp only at hSw)
    go_simp
    try with_reducible rfl
  case rp2 =>
  simp only [Act.put, List.setIfInBounds_toArray, List.set_cons_zero, List.set_cons_succ]
  refine wpAnyH_take (i := 4) (oi := { dst := some 37, op := Go.Op.move (Go.Operand.tmp 0), type := 57, pos := "l03_write.go:85", after := #[], guard := none }) (v := ?vp4) rfl (by kernel_rfl) (by kernel_rfl) (by kernel_rfl) (fun _ _ _ h => h) (Or.inl ⟨by rfl, ?hp4⟩) hHeld ?rp4
  case hp4 =>
    intro wS hSw
    (try dsimp only at hSw)
    go_simp
    try with_reducible rfl
  case rp4 =>
  simp only [Act.put, List.setIfInBounds_toArray, List.set_cons_zero, List.set_cons_succ]
  refine wpAnyH_take (i := 5) (oi := { dst := some 38, op := Go.Op.slice 57 (Go.Operand.tmp 37) (some (Go.Operand.const (Go.Value.int Go.IntKind.i64 3))) none none, type := 57, pos := "l03_write.go:85", after := #[{ on := 4, ground := Go.Ground.data }], guard := none }) (v := ?vp5) rfl (by kernel_rfl) (by kernel_rfl) (by kernel_rfl) (fun _ _ _ h => h) (Or.inl ⟨by rfl, ?hp5⟩) hHeld ?rp5
  case hp5 =>
    intro wS hSw
    (try dsimp only at hSw)
    go_simp
    try with_reducible rfl
  case rp5 =>
  simp only [Act.put, List.setIfInBounds_toArray, List.set_cons_zero, List.set_cons_succ]
  refine wpAnyH_ready (rs := [3]) (by kernel_rfl) (by simp) ?_
  refine AllReadyH.cons (o := { dst := some 36, op := Go.Op.buildSlice 57 2 #[(0, Go.Operand.const (Go.Value.string { data := #[100, 114, 111, 112] })), (1, Go.Operand.tmp 35)], type := 57, pos := "l03_write.go:85", after := #[{ on := 2, ground := Go.Ground.data }], guard := none }) rfl (fun K hK => ?_) AllReadyH.nil
  go_simp
  refine hK.out _ _ (hHeld.alloc hHeld.size _) (fun hHeld => ?_)
  clear hK K
  try simp only [Act.put, List.setIfInBounds_toArray, List.set_cons_zero, List.set_cons_succ]
  refine wpAnyH_ready (rs := [6]) (by kernel_rfl) (by simp) ?_
  refine AllReadyH.cons (o := { dst := some 39, op := Go.Op.call { callee := Go.Callee.builtin Go.Builtin.append, args := #[Go.Operand.tmp 36, Go.Operand.tmp 38], argTypes := #[57, 57] }, type := 57, pos := "l03_write.go:85", after := #[{ on := 3, ground := Go.Ground.data }, { on := 5, ground := Go.Ground.data }], guard := none }) rfl (fun K hK => ?_) AllReadyH.nil
  have hne3 : ¬ cap = 3 := by omega
  rw [if_neg hne3]
  have hnews : ∀ (j : Nat) (u : Value), [Value.string d, .string b, .string c][j]? = some u → (wD.alloc (.cells #[.string ⟨#[100, 114, 111, 112]⟩, .string a] 9)).cell? ((⟨g, 3, none⟩ : Addr).add j) = some u := by
    intro j u hj
    rcases j with _ | _ | _ | j
    · obtain rfl : Value.string d = u := by simpa using hj
      exact cell_keep hHeld k3
    · obtain rfl : Value.string b = u := by simpa using hj
      exact cell_keep hHeld k4
    · obtain rfl : Value.string c = u := by simpa using hj
      exact cell_keep hHeld k5
    · simp at hj
  have O6 : (wD.alloc (.cells #[.string ⟨#[100, 114, 111, 112]⟩, .string a] 9)).ownsRow wD.heap.size 9 1 (.slice (some ⟨wD.heap.size, 0, none⟩) 2 2) 2 [.string ⟨#[100, 114, 111, 112]⟩, .string a] := World.ownsRow_lit wD #[.string ⟨#[100, 114, 111, 112]⟩, .string a] 2 (Nat.le_refl _) (by unfold maxLen; omega) rfl
  refine step_append_at O6 ⟨g, 3, none⟩ 3 (cap - 3) [.string d, .string b, .string c] rfl _ _ rfl rfl rfl rfl hnews (by simp [Value.oneCell']) (by omega) (by omega) (by simp) ?_
  rintro g7 d7 w7 O7 hb7 hl7 hz7
  refine hK.out _ _ (hHeld.trans (hb7.mono (by have := hDz; omega))) (fun hHeld => ?_)
  clear hK K
  try simp only [Act.put, List.setIfInBounds_toArray, List.set_cons_zero, List.set_cons_succ]
  refine wpAnyH_take (i := 7) (oi := { dst := some 0, op := Go.Op.assign (Go.Operand.tmp 39), type := 57, pos := "l03_write.go:85", after := #[{ on := 6, ground := Go.Ground.data }, { on := 6, ground := Go.Ground.chain }, { on := 0, ground := Go.Ground.phase }, { on := 1, ground := Go.Ground.phase }, { on := 2, ground := Go.Ground.phase }, { on := 3, ground := Go.Ground.phase }, { on := 4, ground := Go.Ground.phase }, { on := 5, ground := Go.Ground.phase }, { on := 6, ground := Go.Ground.phase }], guard := none }) (v := ?vp7) rfl (by kernel_rfl) (by kernel_rfl) (by kernel_rfl) (fun _ _ _ h => h) (Or.inl ⟨by rfl, ?hp7⟩) hHeld ?rp7
  case hp7 =>
    intro wS hSw
    (try dsimp only at hSw)
    go_simp
    try with_reducible rfl
  case rp7 =>
  simp only [Act.put, List.setIfInBounds_toArray, List.set_cons_zero]
  refine wpAnyH_done (by kernel_rfl) ?_ _
  refine NoPanic.normal ?_
  have d0 : w7.cell? ⟨g7, 0, none⟩ = some (.string ⟨#[100, 114, 111, 112]⟩) := (O7.cellAt 0 (by omega)).trans rfl
  have d1 : w7.cell? ⟨g7, 1, none⟩ = some (.string a) := (O7.cellAt 1 (by omega)).trans rfl
  have d2 : w7.cell? ⟨g7, 2, none⟩ = some (.string d) := (O7.cellAt 2 (by omega)).trans rfl
  have d3 : w7.cell? ⟨g7, 3, none⟩ = some (.string b) := (O7.cellAt 3 (by omega)).trans rfl
  have d4 : w7.cell? ⟨g7, 4, none⟩ = some (.string c) := (O7.cellAt 4 (by omega)).trans rfl
  have bX := (unhide HX).keep hHeld
  have bR := (unhide HR).keep hHeld
  have HB := hide ((unhide HB1).trans (hHeld.mono (unhide HB1).size))
  have HVI := hide (((unhide HV2).later hHeld).mono (Nat.le_refl _) (hi' := w7.heap.size) hHeld.size)
  clear O7 O6 hb7 hHeld HX HR HB1 HV2 k1 k3 k4 k5 hnews hDz hDz0 hl7 hz7
  have x0 := bX.at 0 _ rfl
  have x1 := bX.at 1 _ rfl
  have x2 := bX.at 2 _ rfl
  have x3 := bX.at 3 _ rfl
  have x4 := bX.at 4 _ rfl
  have r0 := bR.at 0 _ rfl
  have r1 := bR.at 1 _ rfl
  have r2 := bR.at 2 _ rfl
  have r3 := bR.at 3 _ rfl
  have r4 := bR.at 4 _ rfl
  have rf := bR.soft
  have rl := bR.lt
  have HX := hide bX
  have HR := hide bR
  clear bX bR
  simp only [List.getElem_toArray, List.getElem_cons_zero, List.getElem_cons_succ] at x0 x1 x2 x3 x4 r0 r1 r2 r3 r4
  go_wp2_with fail
  refine bodyPost_ret (v := .tuple #[.agg #[.int .i64 1, .int .i64 0, .slice a2 ml p2, .int .i64 0, .int .i64 0], .bool false]) (by simp [results, Tryz.results28, go_sem, r0, r1, r2, r3, r4]) rfl ?_
  refine ⟨ms, unhide HM, ?_⟩
  obtain ⟨s1, -, -, s4, s5⟩ := storeR (vs := [.int .i64 1, .int .i64 0, .slice a2 ml p2, .int .i64 0, .int .i64 0]) (unhide HB) (unhide HX) (unhide HR) (unhide HVI) (Nat.le_refl _) hsx rfl
  refine ⟨[.int .i64 1, .int .i64 0, .slice a2 ml p2, .int .i64 0, .int .i64 0], rfl, ?_, s1⟩
  exact readsR (x := ⟨1, 0, ms, 0, 0⟩) (s4.mono (by omega) s5) rfl rfl rfl rfl

end Go.Proofs.YtjofcmdlcoganaaGreatDoor

namespace Go.Proofs.YtjofcmdlcoganaaGreatDoor
open Go.RowKit

def readPut (c0 c1 c2 c3 c4 c5 : Bytes) : Option DWrite :=
  if c0 = [112, 117, 116] ∧ c3 = [98, 121] then (match modelP c2 with | none => none | some zs => if tailOk 1 zs c1 c4 c5 = true then some (tailW 1 zs c1 c4 c5) else none) else none
def readDrop (c0 c1 c2 c3 c4 : Bytes) : Option DWrite :=
  if c0 = [100, 114, 111, 112] ∧ c2 = [98, 121] then (if tailOk 2 [] c1 c3 c4 = true then some (tailW 2 [] c1 c3 c4) else none) else none
/-- The write whose words these are. -/
def readM : List Bytes → Option DWrite
  | [c0, c1, c2, c3, c4, c5] => readPut c0 c1 c2 c3 c4 c5
  | [c0, c1, c2, c3, c4] => readDrop c0 c1 c2 c3 c4
  | _ => none

theorem ba_eq {s : ByteArray} {l : Bytes} (h : s.data.toList = l) : s = ⟨l.toArray⟩ := by
  obtain ⟨⟨x⟩⟩ := s
  subst h
  rfl
theorem ba_ne {s : ByteArray} {l : Bytes} (h : s.data.toList ≠ l) : s ≠ ⟨l.toArray⟩ := by
  rintro rfl
  exact h rfl

/-- What l3Read tells of a list of words. -/
def ReadPost (l : List Bytes) (w : World) (e : Ending) (w' : World) : Prop := ∃ x ok, ToldR w w' e x ok ∧ readM l = if ok = true then some x else none

theorem putBad {a t b c : Bytes} {ms : List Int} (hm : modelP t = some ms ∨ (modelP t = none ∧ vecFault ms ≠ 0)) (h : tailOk 1 ms a b c = false) : readPut [112, 117, 116] a t [98, 121] b c = none := by
  rw [readPut, if_pos ⟨rfl, rfl⟩]
  rcases hm with hm | ⟨hm, -⟩
  · rw [hm]; simp [h]
  · rw [hm]
theorem putAny {a t b c : Bytes} {ms : List Int} (hm : modelP t = some ms ∨ (modelP t = none ∧ vecFault ms ≠ 0)) : readPut [112, 117, 116] a t [98, 121] b c = if tailOk 1 ms a b c = true then some (tailW 1 ms a b c) else none := by
  rw [readPut, if_pos ⟨rfl, rfl⟩]
  rcases hm with hm | ⟨hm, hf⟩
  · rw [hm]
  · have : tailOk 1 ms a b c = false := by
      unfold tailOk
      rw [Bool.and_eq_false_iff]
      right
      rw [beq_eq_false_iff_ne]
      intro h
      obtain ⟨-, -, -, hk⟩ := writeFault_zero h
      rcases hk with ⟨-, hv⟩ | ⟨h2, -⟩
      · exact hf hv
      · omega
    rw [hm, this]
    simp

theorem read_put (g cap : Nat) (c0 a t d b c : ByteArray) (w : World) (hcap : 6 ≤ cap) (h0 : w.cell? ⟨g, 0, none⟩ = some (.string c0)) (h1 : w.cell? ⟨g, 1, none⟩ = some (.string a)) (h2 : w.cell? ⟨g, 2, none⟩ = some (.string t)) (h3 : w.cell? ⟨g, 3, none⟩ = some (.string d)) (h4 : w.cell? ⟨g, 4, none⟩ = some (.string b)) (h5 : w.cell? ⟨g, 5, none⟩ = some (.string c))
    (za : a.size ≤ 1048576) (zt : t.size ≤ 1048576) (zb : b.size ≤ 1048576) (zc : c.size ≤ 1048576) :
    Calls Tryz.prog 28 #[.slice (some ⟨g, 0, none⟩) 6 cap] w (ReadPost [c0.data.toList, a.data.toList, t.data.toList, d.data.toList, b.data.toList, c.data.toList] w) := by
  by_cases e0 : c0.data.toList = [112, 117, 116]
  · by_cases e3 : d.data.toList = [98, 121]
    · rw [e0, e3]
      rw [ba_eq e0] at h0
      rw [ba_eq e3] at h3
      by_cases ka : (numR a.data.toList).2 = true
      · by_cases kb : (numR b.data.toList).2 = true
        · by_cases kc : (numR c.data.toList).2 = true
          · refine (l3Read_put3 g cap a t b c w hcap h0 h1 h2 h3 h4 h5 za zt zb zc ka kb kc).mono ?_
            rintro e w' ⟨ms, hm, ht⟩
            refine ⟨_, _, ht, (putAny hm).trans ?_⟩
            unfold tailOk
            rw [ka, kb, kc]
            rfl
          · refine (l3Read_put2 g cap a t b c w hcap h0 h1 h2 h3 h4 h5 za zt zb zc ka kb (by simpa using kc)).mono ?_
            rintro e w' ⟨ms, hm, ht⟩
            exact ⟨_, _, ht, (putBad hm (by simp [tailOk, kc])).trans (by simp)⟩
        · refine (l3Read_put1 g cap a t b c w hcap h0 h1 h2 h3 h4 h5 za zt zb zc ka (by simpa using kb)).mono ?_
          rintro e w' ⟨ms, hm, ht⟩
          exact ⟨_, _, ht, (putBad hm (by simp [tailOk, kb])).trans (by simp)⟩
      · refine (l3Read_put0 g cap a t b c w hcap h0 h1 h2 h3 h4 h5 za zt zb zc (by simpa using ka)).mono ?_
        rintro e w' ⟨ms, hm, ht⟩
        exact ⟨_, _, ht, (putBad hm (by simp [tailOk, ka])).trans (by simp)⟩
    · rw [ba_eq e0] at h0
      refine (l3Read_other g cap a t b c d w hcap h0 h1 h2 h3 h4 h5 za zt zb zc (ba_ne e3)).mono ?_
      rintro e w' ⟨ms, hm, ht⟩
      exact ⟨_, _, ht, by simp [readM, readPut, e3]⟩
  · refine (l3Read_no2 g cap c0 w h0 (ba_ne e0)).mono ?_
    intro e w' ht
    exact ⟨_, _, ht, by simp [readM, readPut, e0]⟩

theorem read_drop (g cap : Nat) (c0 a t b c : ByteArray) (w : World) (h0 : w.cell? ⟨g, 0, none⟩ = some (.string c0)) (h1 : w.cell? ⟨g, 1, none⟩ = some (.string a)) (h2 : w.cell? ⟨g, 2, none⟩ = some (.string t)) (h3 : w.cell? ⟨g, 3, none⟩ = some (.string b)) (h4 : w.cell? ⟨g, 4, none⟩ = some (.string c))
    (za : a.size ≤ 1048576) (zb : b.size ≤ 1048576) (zc : c.size ≤ 1048576) :
    Calls Tryz.prog 28 #[.slice (some ⟨g, 0, none⟩) 5 cap] w (ReadPost [c0.data.toList, a.data.toList, t.data.toList, b.data.toList, c.data.toList] w) := by
  by_cases e0 : c0.data.toList = [100, 114, 111, 112]
  · rw [ba_eq e0] at h0
    by_cases e3 : t.data.toList = [98, 121]
    · rw [e0, e3]
      rw [ba_eq e3] at h2
      by_cases ka : (numR a.data.toList).2 = true
      · by_cases kb : (numR b.data.toList).2 = true
        · by_cases kc : (numR c.data.toList).2 = true
          · refine (l3Read_drop3 g cap a b c w h0 h1 h2 h3 h4 za zb zc ka kb kc).mono ?_
            intro e w' ht
            refine ⟨_, _, ht, ?_⟩
            show readDrop _ _ _ _ _ = _
            rw [readDrop, if_pos ⟨rfl, rfl⟩]
            unfold tailOk
            rw [ka, kb, kc]
            rfl
          · refine (l3Read_drop2 g cap a b c w h0 h1 h2 h3 h4 za zb zc ka kb (by simpa using kc)).mono ?_
            intro e w' ht
            exact ⟨_, _, ht, by simp [readM, readDrop, tailOk, kc]⟩
        · refine (l3Read_drop1 g cap a b c w h0 h1 h2 h3 h4 za zb zc ka (by simpa using kb)).mono ?_
          intro e w' ht
          exact ⟨_, _, ht, by simp [readM, readDrop, tailOk, kb]⟩
      · refine (l3Read_drop0 g cap a b c w h0 h1 h2 h3 h4 za zb zc (by simpa using ka)).mono ?_
        intro e w' ht
        exact ⟨_, _, ht, by simp [readM, readDrop, tailOk, ka]⟩
    · refine (l3Read_no4 g cap t w h0 h2 (ba_ne e3)).mono ?_
      intro e w' ht
      exact ⟨_, _, ht, by simp [readM, readDrop, e3]⟩
  · refine (l3Read_no3 g cap c0 w h0 (ba_ne e0)).mono ?_
    intro e w' ht
    exact ⟨_, _, ht, by simp [readM, readDrop, e0]⟩

theorem readM_len {l : List Bytes} (h5 : l.length ≠ 5) (h6 : l.length ≠ 6) : readM l = none := by
  unfold readM
  split
  · simp at h6
  · simp at h5
  · rfl

/-- The model's l3Read. -/
theorem l3ReadC (v : Value) (bs : List ByteArray) (base : Nat) (w : World) (h : w.ownsRow base 9 1 v bs.length (bs.map Value.string)) (hz : ∀ b ∈ bs, b.size ≤ 1048576) :
    Calls Tryz.prog 28 #[v] w (ReadPost (bs.map fun b => b.data.toList) w) := by
  by_cases h6 : bs.length = 6
  · obtain ⟨g, cap, rfl, hcap, hcell⟩ : ∃ g cap, v = .slice (some ⟨g, 0, none⟩) 6 cap ∧ 6 ≤ cap ∧ ∀ j (hj : j < bs.length), w.cell? ⟨g, j, none⟩ = some (.string bs[j]) := by
      rcases h.2 with ⟨_, h0⟩ | ⟨g, cap, cur, rfl, _, hh, hc, _⟩
      · omega
      · refine ⟨g, cap, by rw [h6], by omega, fun j hj => ?_⟩
        rw [h.cellAt j (by omega)]
        simp [hj]
    match bs, h6, hcell, hz with
    | [c0, a, t, d, b, c], _, hcell, hz =>
      exact read_put g cap c0 a t d b c w hcap (hcell 0 (by simp)) (hcell 1 (by simp)) (hcell 2 (by simp)) (hcell 3 (by simp)) (hcell 4 (by simp)) (hcell 5 (by simp)) (hz a (by simp)) (hz t (by simp)) (hz b (by simp)) (hz c (by simp))
  · by_cases h5 : bs.length = 5
    · obtain ⟨g, cap, rfl, hcell⟩ : ∃ g cap, v = .slice (some ⟨g, 0, none⟩) 5 cap ∧ ∀ j (hj : j < bs.length), w.cell? ⟨g, j, none⟩ = some (.string bs[j]) := by
        rcases h.2 with ⟨_, h0⟩ | ⟨g, cap, cur, rfl, _, hh, hc, _⟩
        · omega
        · refine ⟨g, cap, by rw [h5], fun j hj => ?_⟩
          rw [h.cellAt j (by omega)]
          simp [hj]
      match bs, h5, hcell, hz with
      | [c0, a, t, b, c], _, hcell, hz =>
        exact read_drop g cap c0 a t b c w (hcell 0 (by simp)) (hcell 1 (by simp)) (hcell 2 (by simp)) (hcell 3 (by simp)) (hcell 4 (by simp)) (hz a (by simp)) (hz b (by simp)) (hz c (by simp))
    · obtain ⟨ao, cap, rfl⟩ := own_shape h
      refine (l3Read_no1 ao bs.length cap w h5 h6).mono ?_
      intro e w' ht
      exact ⟨_, _, ht, by rw [readM_len (by simpa using h5) (by simpa using h6)]; simp⟩

end Go.Proofs.YtjofcmdlcoganaaGreatDoor

namespace Go.Proofs.YtjofcmdlcoganaaGreatDoor
open Go.RowKit

structure DWriteResult where
  code : Int
  write : DWrite

def Lay.tWriteResult : Lay DWriteResult := Lay.via (Lay.pair Lay.int Lay.tWrite) (fun x => (x.code, x.write)) (fun p => ⟨p.1, p.2⟩)

theorem lies_WriteResult {w : World} {cs : List Value} {x : DWriteResult} {bl : List Nat} : Lay.tWriteResult.lies w cs x bl ↔ ∃ (a3 : Option Addr) (d3 : Nat) (b3 : List Nat), cs = [.int .i64 x.code, .int .i64 x.write.kind, .int .i64 x.write.id, .slice a3 x.write.vec.length d3, .int .i64 x.write.session, .int .i64 x.write.seq] ∧ bl = b3 ∧ (Lit.int .i64 x.code).wf = true ∧ (Lit.int .i64 x.write.kind).wf = true ∧ (Lit.int .i64 x.write.id).wf = true ∧ (Lay.sl Lay.int).lies w [.slice a3 x.write.vec.length d3] x.write.vec b3 ∧ (Lit.int .i64 x.write.session).wf = true ∧ (Lit.int .i64 x.write.seq).wf = true := by
  constructor
  · intro h
    obtain ⟨c0_, r0_, e0_, s0_, rfl, rfl, h0, h1⟩ := h
    obtain ⟨rfl, w0, rfl⟩ := h0
    obtain ⟨a3, d3, q3, rfl, hq1, w1, w2, l3, w4, w5⟩ := lies_Write.1 h1
    exact ⟨a3, d3, q3, by simp, by simp [hq1], w0, w1, w2, l3, w4, w5⟩
  · rintro ⟨a3, d3, b3, rfl, hbl, w0, w1, w2, l3, w4, w5⟩
    rw [hbl]
    exact ⟨[.int .i64 x.code], [.int .i64 x.write.kind, .int .i64 x.write.id, .slice a3 x.write.vec.length d3, .int .i64 x.write.session, .int .i64 x.write.seq], [], b3, rfl, by simp, ⟨rfl, w0, rfl⟩, lies_Write.2 ⟨a3, d3, b3, rfl, rfl, w1, w2, l3, w4, w5⟩⟩

theorem open_WriteResult {w : World} {cs : List Value} {x : DWriteResult} (h : Lay.tWriteResult.Reads w cs x) : ∃ (a3 : Option Addr) (d3 : Nat), cs = [.int .i64 x.code, .int .i64 x.write.kind, .int .i64 x.write.id, .slice a3 x.write.vec.length d3, .int .i64 x.write.session, .int .i64 x.write.seq] ∧ Lay.tWrite.Reads w [.int .i64 x.write.kind, .int .i64 x.write.id, .slice a3 x.write.vec.length d3, .int .i64 x.write.session, .int .i64 x.write.seq] x.write := by
  obtain ⟨bl, h⟩ := h
  obtain ⟨a3, d3, b3, rfl, -, w0, w1, w2, l3, w4, w5⟩ := lies_WriteResult.1 h
  exact ⟨a3, d3, rfl, ⟨_, lies_Write.2 ⟨a3, d3, _, rfl, rfl, w1, w2, l3, w4, w5⟩⟩⟩

end Go.Proofs.YtjofcmdlcoganaaGreatDoor

namespace Go.Proofs.YtjofcmdlcoganaaGreatDoor
open Go.RowKit

def zeroW : DWrite := ⟨0, 0, [], 0, 0⟩

/-- A result with a code alone. -/
theorem own_badW {w : World} {c : Int} {lo hi : Nat} (hw : (Lit.int .i64 c).wf = true) : Lay.tWriteResult.OwnIn w [.int .i64 c, .int .i64 0, .int .i64 0, .slice none 0 0, .int .i64 0, .int .i64 0] ⟨c, zeroW⟩ lo hi :=
  ⟨[], ⟨lies_WriteResult.2 ⟨none, 0, [], rfl, rfl, hw, rfl, rfl, Lay.lies_ints.2 ⟨none, 0, rfl, ⟨by simp [zeroW], by simp [zeroW]⟩, by simp [zeroW], Or.inl ⟨rfl, rfl⟩⟩, rfl, rfl⟩, by simp, by simp⟩, by simp⟩
/-- A result with a write. -/
theorem own_okW {w : World} {x : DWrite} {v : Value} {lo hi : Nat} (h : (Lay.sl Lay.int).OwnIn w [v] x.vec lo hi) (h1 : (Lit.int .i64 x.kind).wf = true) (h2 : (Lit.int .i64 x.id).wf = true) (h3 : (Lit.int .i64 x.session).wf = true) (h4 : (Lit.int .i64 x.seq).wf = true) :
    Lay.tWriteResult.OwnIn w [.int .i64 0, .int .i64 x.kind, .int .i64 x.id, v, .int .i64 x.session, .int .i64 x.seq] ⟨0, x⟩ lo hi := by
  obtain ⟨bl, ⟨hl, hn, hf⟩, hb⟩ := h
  have hl' := hl
  obtain ⟨ao, cap, e, -⟩ := hl'
  obtain rfl : v = .slice ao x.vec.length cap := by simpa using e
  exact ⟨bl, ⟨lies_WriteResult.2 ⟨ao, cap, bl, rfl, rfl, rfl, h1, h2, hl, h3, h4⟩, hn, hf⟩, hb⟩

end Go.Proofs.YtjofcmdlcoganaaGreatDoor
