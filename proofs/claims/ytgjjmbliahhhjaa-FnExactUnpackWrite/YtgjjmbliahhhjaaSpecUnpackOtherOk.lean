/-
  The model's UnpackWrite: the write whose words a list is; nothing old is written.
  No condition.
-/
import Derived.Test.YtgjjmbliahhhjaaSpecUnpackB
namespace Go.Proofs.Ytgjjmbliahhhjaa
open Go.RowKit

set_option maxRecDepth 100000 in
set_option maxHeartbeats 4000000 in
theorem l3Unpack_other_ok (b off cap : Nat) (k i s q x y z c : Int) (w : World) (h : IsInts w (.slice (some ⟨b, off, none⟩) 8 cap) [k, i, s, q, x, y, z, c]) (hk : k ≠ 1) (hf : writeFault k i [] s q = 0) :
    Calls Try.prog 38 #[.slice (some ⟨b, off, none⟩) 8 cap] w fun e w' => ToldU w w' e (unpackW [k, i, s, q, x, y, z, c]) (decide (wordsOf k i [] s q = [k, i, s, q, x, y, z, c])) := by
  have hc : ∀ j, j < 8 → w.cell? ⟨b, off + j, none⟩ = some (.int .i64 ([k, i, s, q, x, y, z, c].getD j 0)) := by
    obtain ⟨ao, cp, e, -, hc⟩ := h
    obtain ⟨b', off', rfl, hc1⟩ := hc (by simp)
    simp only [Value.slice.injEq, Option.some.injEq, Addr.mk.injEq, and_true] at e
    obtain ⟨⟨rfl, rfl⟩, -, -⟩ := e
    exact hc1
  have c0 : w.cell? ⟨b, off, none⟩ = some (.int .i64 k) := hc 0 (by omega)
  have c1 : w.cell? ⟨b, off + 1, none⟩ = some (.int .i64 i) := hc 1 (by omega)
  have c2 : w.cell? ⟨b, off + 2, none⟩ = some (.int .i64 s) := hc 2 (by omega)
  have c3 : w.cell? ⟨b, off + 3, none⟩ = some (.int .i64 q) := hc 3 (by omega)
  have hwf := h.wf
  have f0 : (Lit.int .i64 k).wf = true := hwf k (by simp)
  have f1 : (Lit.int .i64 i).wf = true := hwf i (by simp)
  have f2 : (Lit.int .i64 s).wf = true := hwf s (by simp)
  have f3 : (Lit.int .i64 q).wf = true := hwf q (by simp)
  have HF := hide (And.intro f0 (And.intro f1 (And.intro f2 f3)))
  have H := hide h
  have HFL := hide hf
  clear h hc hwf f0 f1 f2 f3 hf
  have nb : Below w.heap.size w (w.alloc (.cells #[.int .i64 0, .int .i64 0, .slice none 0 0, .int .i64 0, .int .i64 0] 27)) := (Below.refl _ _).alloc (Nat.le_refl _) _
  have bR : Box 0 #[.int .i64 0, .int .i64 0, .slice none 0 0, .int .i64 0, .int .i64 0] 27 (w.alloc (.cells #[.int .i64 0, .int .i64 0, .slice none 0 0, .int .i64 0, .int .i64 0] 27)) w.heap.size := newBox (Nat.zero_le _)
  have d0 := cell_keep nb c0
  have d1 := cell_keep nb c1
  have d2 := cell_keep nb c2
  have d3 := cell_keep nb c3
  clear c0 c1 c2 c3
  go_enter Try.func38, Try.ntmps38
  go_wp2_with fail
  generalize w.alloc (.cells #[.int .i64 0, .int .i64 0, .slice none 0 0, .int .i64 0, .int .i64 0] 27) = W0 at *
  first
    | go_region_held3 (fun w' => w'.cell? ⟨b, off, none⟩ = some (.int .i64 k) ∧ w'.cell? ⟨b, off + 1, none⟩ = some (.int .i64 i) ∧ w'.cell? ⟨b, off + 2, none⟩ = some (.int .i64 s) ∧ w'.cell? ⟨b, off + 3, none⟩ = some (.int .i64 q))
        (first
          | exact ⟨d0, d1, d2, d3⟩
          | (refine ⟨(World.grownBy_alloc _ _ none).cell ?_ (by simp), (World.grownBy_alloc _ _ none).cell ?_ (by simp), (World.grownBy_alloc _ _ none).cell ?_ (by simp), (World.grownBy_alloc _ _ none).cell ?_ (by simp)⟩ <;> assumption)
          | go_keep)
        (fail)
    | fail
  clear d0 d1 d2 d3
  have nb1 : Below W0.heap.size W0 (W0.alloc (.cells #[.int .i64 k, .int .i64 i, .slice none 0 0, .int .i64 s, .int .i64 q] 27)).drew := ((Below.refl _ _).alloc (Nat.le_refl _) _).drew
  have bX : Box 0 #[.int .i64 k, .int .i64 i, .slice none 0 0, .int .i64 s, .int .i64 q] 27 (W0.alloc (.cells #[.int .i64 k, .int .i64 i, .slice none 0 0, .int .i64 s, .int .i64 q] 27)).drew W0.heap.size := (newBox (Nat.zero_le _)).drew
  generalize (W0.alloc (.cells #[.int .i64 k, .int .i64 i, .slice none 0 0, .int .i64 s, .int .i64 q] 27)).drew = W1 at *
  have hX := bX.lt
  have hR := bR.lt
  replace bR := bR.keep nb1
  have HB1 := hide (nb.trans (nb1.mono nb.size))
  skip
  clear nb nb1
  generalize hs0 : W0.heap.size = sx at *
  clear hs0
  have x0 := bX.at 0 _ rfl
  have x1 := bX.at 1 _ rfl
  have x2 := bX.at 2 _ rfl
  have x3 := bX.at 3 _ rfl
  have x4 := bX.at 4 _ rfl
  have HR := hide bR
  have HX := hide bX
  clear bR bX
  go_wp2_with fail
  have bX := unhide HX
  have bR := unhide HR
  clear HX HR x0 x1 x2 x3 x4
  obtain ⟨W2, hW2⟩ : ∃ W2, W2 = W1 := ⟨_, rfl⟩
  subst hW2
  have HVI : Hid ((Lay.sl Lay.int).LiesIn W2 [.slice none 0 0] [] (sx + 1) W2.heap.size) := ⟨[], Lay.lies_ints.2 ⟨none, 0, rfl, ⟨by simp, by simp⟩, by simp, Or.inl ⟨rfl, rfl⟩⟩, by simp⟩
  have HWW : Hid (∀ u ∈ wordsOf k i [] s q, (Lit.int .i64 u).wf = true) := by
    have := packList_wf (k := k) (i := i) (s := s) (q := q) (zs := [])
    rw [packList, if_pos (unhide HFL)] at this
    exact this
  refine wp_region_noPanic ?_
  refine wp_region_held_drew (S := fun w' => Below w.heap.size w w' ∧ Box 0 #[.int .i64 k, .int .i64 i, .slice none 0 0, .int .i64 s, .int .i64 q] 27 w' sx ∧ (∃ cs : Array Value, cs.size = 5 ∧ Box 0 cs 27 w' w.heap.size) ∧ (Lay.sl Lay.int).LiesIn w' [.slice none 0 0] [] (sx + 1) W2.heap.size ∧ W2.heap.size ≤ w'.heap.size) (by kernel_rfl) ⟨(unhide HB1).drew, bX.drew, ⟨_, rfl, bR.drew⟩, unhide HVI, Nat.le_refl _⟩ (fun hHeld => ?_)
  generalize W2.drew = wD at hHeld ⊢
  refine wpAnyH_take (i := 0) (oi := { dst := some 29, op := Go.Op.load 27 (Go.Operand.tmp 4), type := 27, pos := "l03_write.go:52", after := #[], guard := none }) (v := ?v0) rfl (by kernel_rfl) (by kernel_rfl) (by kernel_rfl) (fun _ _ _ h => h) (Or.inl ⟨by rfl, ?h0⟩) hHeld ?r0
  case h0 =>
    intro wS hSw
    have y0 := hSw.2.1.at 0 _ rfl
    have y1 := hSw.2.1.at 1 _ rfl
    have y2 := hSw.2.1.at 2 _ rfl
    have y3 := hSw.2.1.at 3 _ rfl
    have y4 := hSw.2.1.at 4 _ rfl
    simp only [List.getElem_toArray, List.getElem_cons_zero, List.getElem_cons_succ] at y0 y1 y2 y3 y4
    clear hSw
    (try dsimp only at hSw)
    go_simp
    try with_reducible rfl
  case r0 =>
  simp only [Act.put, List.setIfInBounds_toArray, List.set_cons_zero, List.set_cons_succ]
  refine wpAnyH_ready (rs := [1]) (by kernel_rfl) (by simp) ?_
  refine AllReadyH.cons (o := { dst := some 30, op := Go.Op.call { callee := Go.Callee.value (Go.Operand.func 32), args := #[Go.Operand.tmp 4], argTypes := #[53] }, type := 2, pos := "l03_write.go:52", after := #[], guard := none }) rfl (fun K hK => ?_) AllReadyH.nil
  go_simp
  go_at_call 32
  refine (l3Fault sx k i _ s q [] _ ⟨hHeld.2.1.at 0 _ rfl, hHeld.2.1.at 1 _ rfl, hHeld.2.1.at 2 _ rfl, hHeld.2.1.at 3 _ rfl, hHeld.2.1.at 4 _ rfl⟩ (Lay.ints_reads hHeld.2.2.2.1.reads)).mono ?_
  rintro e wE ⟨rfl, hwe⟩
  subst hwe
  rw [unhide HFL]
  try go_wp2_with fail
  refine hK.out _ _ hHeld (fun hHeld => ?_)
  clear hK K
  try simp only [Act.put, List.setIfInBounds_toArray, List.set_cons_zero, List.set_cons_succ]
  refine wpAnyH_take (i := 2) (oi := { dst := some 31, op := Go.Op.binOp Go.BinOp.eql 2 (Go.Operand.tmp 30) (Go.Operand.const (Go.Value.int Go.IntKind.i64 0)) 2, type := 4, pos := "l03_write.go:52", after := #[{ on := 1, ground := Go.Ground.data }], guard := none }) (v := ?v2) rfl (by kernel_rfl) (by kernel_rfl) (by kernel_rfl) (fun _ _ _ h => h) (Or.inl ⟨by rfl, ?h2⟩) hHeld ?r2
  case h2 =>
    intro wS hSw
    (try dsimp only at hSw)
    go_simp
    try with_reducible rfl
  case r2 =>
  simp only [Act.put, List.setIfInBounds_toArray, List.set_cons_zero, List.set_cons_succ]
  refine wpAnyH_take (i := 3) (oi := { dst := some 32, op := Go.Op.move (Go.Operand.tmp 31), type := 4, pos := "l03_write.go:52", after := #[{ on := 2, ground := Go.Ground.data }, { on := 1, ground := Go.Ground.chain }], guard := none }) (v := ?v3) rfl (by kernel_rfl) (by kernel_rfl) (by kernel_rfl) (fun _ _ _ h => h) (Or.inl ⟨by rfl, ?h3⟩) hHeld ?r3
  case h3 =>
    intro wS hSw
    (try dsimp only at hSw)
    go_simp
    try with_reducible rfl
  case r3 =>
  simp only [Act.put, List.setIfInBounds_toArray, List.set_cons_zero, List.set_cons_succ]
  refine wpAnyH_take (i := 5) (oi := { dst := some 34, op := Go.Op.move (Go.Operand.tmp 0), type := 22, pos := "l03_write.go:52", after := #[{ on := 3, ground := Go.Ground.guard }], guard := some (3, true) }) (v := ?v5) rfl (by kernel_rfl) (by kernel_rfl) (by kernel_rfl) (fun _ _ _ h => h) (Or.inl ⟨by rfl, ?h5⟩) hHeld ?r5
  case h5 =>
    intro wS hSw
    (try dsimp only at hSw)
    go_simp
    try with_reducible rfl
  case r5 =>
  simp only [Act.put, List.setIfInBounds_toArray, List.set_cons_zero, List.set_cons_succ]
  refine wpAnyH_ready (rs := [4]) (by kernel_rfl) (by simp) ?_
  refine AllReadyH.cons (o := { dst := some 33, op := Go.Op.call { callee := Go.Callee.value (Go.Operand.func 34), args := #[Go.Operand.tmp 4], argTypes := #[53] }, type := 22, pos := "l03_write.go:52", after := #[{ on := 3, ground := Go.Ground.chain }, { on := 3, ground := Go.Ground.guard }], guard := some (3, true) }) rfl (fun K hK => ?_) AllReadyH.nil
  go_simp
  go_at_call 34
  refine (l3Pack sx k i _ s q [] _ ⟨hHeld.2.1.at 0 _ rfl, hHeld.2.1.at 1 _ rfl, hHeld.2.1.at 2 _ rfl, hHeld.2.1.at 3 _ rfl, hHeld.2.1.at 4 _ rfl⟩ (Lay.ints_reads hHeld.2.2.2.1.reads) (unhide HFL)).mono ?_
  rintro e w4 ⟨g4, rfl, O4, hbw⟩
  have I4 := isInts_row (zs := wordsOf k i [] s q) (unhide HWW) O4
  try go_wp2_with fail
  refine hK.out _ _ ⟨hHeld.1.trans (hbw.mono hHeld.1.size), hHeld.2.1.keep hbw, (by obtain ⟨cs, h1, h2⟩ := hHeld.2.2.1; exact ⟨cs, h1, h2.keep hbw⟩), hHeld.2.2.2.1.later hbw, Nat.le_trans hHeld.2.2.2.2 hbw.size⟩ (fun hHeld => ?_)
  clear hK K
  try simp only [Act.put, List.setIfInBounds_toArray, List.set_cons_zero, List.set_cons_succ]
  refine wpAnyH_ready (rs := [6]) (by kernel_rfl) (by simp) ?_
  refine AllReadyH.cons (o := { dst := some 35, op := Go.Op.call { callee := Go.Callee.value (Go.Operand.func 55), args := #[Go.Operand.tmp 33, Go.Operand.tmp 34], argTypes := #[22, 22] }, type := 4, pos := "l03_write.go:52", after := #[{ on := 4, ground := Go.Ground.data }, { on := 5, ground := Go.Ground.data }, { on := 4, ground := Go.Ground.chain }, { on := 3, ground := Go.Ground.guard }], guard := some (3, true) }) rfl (fun K hK => ?_) AllReadyH.nil
  go_simp
  go_at_call 55
  refine (l1Same _ _ (wordsOf k i [] s q) [k, i, s, q, x, y, z, c] _ I4 ((unhide H).later hHeld.1) (by simp [wordsOf])).mono ?_
  rintro e w5 ⟨rfl, hbw⟩
  try go_wp2_with fail
  refine hK.out _ _ ⟨hHeld.1.trans (hbw.mono hHeld.1.size), hHeld.2.1.keep hbw, (by obtain ⟨cs, h1, h2⟩ := hHeld.2.2.1; exact ⟨cs, h1, h2.keep hbw⟩), hHeld.2.2.2.1.later hbw, Nat.le_trans hHeld.2.2.2.2 hbw.size⟩ (fun hHeld => ?_)
  clear hK K
  try simp only [Act.put, List.setIfInBounds_toArray, List.set_cons_zero, List.set_cons_succ]
  refine wpAnyH_take (i := 7) (oi := { dst := some 36, op := Go.Op.pick (Go.Operand.tmp 32) (Go.Operand.tmp 35) (Go.Operand.const (Go.Value.bool false)), type := 4, pos := "l03_write.go:52", after := #[{ on := 3, ground := Go.Ground.data }, { on := 6, ground := Go.Ground.data }, { on := 8, ground := Go.Ground.gcOnly Go.Departure.lateStores }], guard := none }) (v := ?v7) rfl (by kernel_rfl) (by kernel_rfl) (by kernel_rfl) (fun _ _ _ h => h) (Or.inl ⟨by rfl, ?h7⟩) hHeld ?r7
  case h7 =>
    intro wS hSw
    (try dsimp only at hSw)
    go_simp
    try with_reducible rfl
  case r7 =>
  simp only [Act.put, List.setIfInBounds_toArray, List.set_cons_zero, List.set_cons_succ]
  refine wpAnyH_ready (rs := [8]) (by kernel_rfl) (by simp) ?_
  refine AllReadyH.cons (o := { dst := none, op := Go.Op.store 27 (Go.Operand.tmp 2) (Go.Operand.tmp 29), type := 0, pos := "l03_write.go:52", after := #[{ on := 0, ground := Go.Ground.data }, { on := 6, ground := Go.Ground.chain }, { on := 0, ground := Go.Ground.phase }, { on := 1, ground := Go.Ground.textOnly Go.Departure.lateStoresUnsure }, { on := 2, ground := Go.Ground.textOnly Go.Departure.lateStores }, { on := 3, ground := Go.Ground.textOnly Go.Departure.lateStores }, { on := 4, ground := Go.Ground.textOnly Go.Departure.lateStoresUnsure }, { on := 5, ground := Go.Ground.textOnly Go.Departure.lateStores }, { on := 6, ground := Go.Ground.textOnly Go.Departure.lateStoresUnsure }, { on := 7, ground := Go.Ground.textOnly Go.Departure.lateStores }], guard := none }) rfl (fun K hK => ?_) AllReadyH.nil
  obtain ⟨hb9, bX9, ⟨cs9, hs9, bR9⟩, hv9, hz9⟩ := hHeld
  obtain ⟨q0, q1, q2, q3, q4, rfl⟩ : ∃ q0 q1 q2 q3 q4 : Value, cs9 = #[q0, q1, q2, q3, q4] := by
    obtain ⟨l⟩ := cs9
    match l, hs9 with
    | [q0, q1, q2, q3, q4], _ => exact ⟨q0, q1, q2, q3, q4, rfl⟩
  have e0 : w5.cell? ⟨w.heap.size, 0, none⟩ = some q0 := bR9.at 0 _ rfl
  have e1 : w5.cell? ⟨w.heap.size, 1, none⟩ = some q1 := bR9.at 1 _ rfl
  have e2 : w5.cell? ⟨w.heap.size, 2, none⟩ = some q2 := bR9.at 2 _ rfl
  have e3 : w5.cell? ⟨w.heap.size, 3, none⟩ = some q3 := bR9.at 3 _ rfl
  have e4 : w5.cell? ⟨w.heap.size, 4, none⟩ = some q4 := bR9.at 4 _ rfl
  have ef : ∀ o, w5.frozen? ⟨w.heap.size, o, none⟩ = false := bR9.soft
  have el : w.heap.size < w5.heap.size := bR9.lt
  go_simp
  try go_wp2_with fail
  refine hK.out _ _ (storeS (vs := [.int .i64 k, .int .i64 i, .slice none 0 0, .int .i64 s, .int .i64 q]) hb9 bX9 bR9 hv9 hz9 (by omega) rfl) (fun hHeld => ?_)
  clear hK K
  try simp only [Act.put, List.setIfInBounds_toArray, List.set_cons_zero, List.set_cons_succ]
  refine wpAnyH_take (i := 9) (oi := { dst := some 3, op := Go.Op.assign (Go.Operand.tmp 36), type := 4, pos := "l03_write.go:52", after := #[{ on := 7, ground := Go.Ground.data }, { on := 8, ground := Go.Ground.chain }, { on := 0, ground := Go.Ground.phase }, { on := 1, ground := Go.Ground.phase }, { on := 2, ground := Go.Ground.phase }, { on := 3, ground := Go.Ground.phase }, { on := 4, ground := Go.Ground.phase }, { on := 5, ground := Go.Ground.phase }, { on := 6, ground := Go.Ground.phase }, { on := 7, ground := Go.Ground.phase }, { on := 8, ground := Go.Ground.phase }], guard := none }) (v := ?v9) rfl (by kernel_rfl) (by kernel_rfl) (by kernel_rfl) (fun _ _ _ h => h) (Or.inl ⟨by rfl, ?h9⟩) hHeld ?r9
  case h9 =>
    intro wS hSw
    (try dsimp only at hSw)
    go_simp
    try with_reducible rfl
  case r9 =>
  simp only [Act.put, List.setIfInBounds_toArray, List.set_cons_zero, List.set_cons_succ]
  refine wpAnyH_done (by kernel_rfl) ?_ _
  refine NoPanic.normal ?_
  have HS := hide hHeld
  clear hHeld
  go_wp2_with fail
  refine bodyPost_ret (v := .tuple #[.agg #[.int .i64 k, .int .i64 i, .slice none 0 0, .int .i64 s, .int .i64 q], .bool (decide (wordsOf k i [] s q = [k, i, s, q, x, y, z, c]))]) (by simp [results, Try.results38, go_sem, e0, e1, e2, e3, e4]) rfl ?_
  obtain ⟨f0, f1, f2, f3⟩ := unhide HF
  have hlo : w.heap.size ≤ sx + 1 := by omega
  obtain ⟨s1, -, -, s4, s5⟩ := unhide HS
  refine ⟨[.int .i64 k, .int .i64 i, .slice none 0 0, .int .i64 s, .int .i64 q], rfl, ?_, s1⟩
  refine readsW (x := unpackW [k, i, s, q, x, y, z, c]) ?_ f0 f1 f2 f3
  rw [show (unpackW [k, i, s, q, x, y, z, c]).vec = [] by simp [unpackW, hk]]
  exact s4.mono hlo s5

end Go.Proofs.Ytgjjmbliahhhjaa
