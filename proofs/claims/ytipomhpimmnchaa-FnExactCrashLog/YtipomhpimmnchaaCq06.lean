/-
  Texts of this proof in one: SpecUnpackPutBad, SpecUnpackOtherOk, SpecUnpackOtherBad, SpecUnpack, WritesPlain, ApplyPlain, LayWritesResult.
  Their conditions stand in their theorems.
-/
import Derived.Test.YtipomhpimmnchaaCq05
import Derived.Test.YtipomhpimmnchaaCq04
import Derived.Test.YtipomhpimmnchaaCq01

namespace Go.Proofs.Ytipomhpimmnchaa
open Go.RowKit

set_option maxRecDepth 100000 in
set_option maxHeartbeats 4000000 in
theorem l3Unpack_put_bad (b off cap : Nat) (i s q x y z c : Int) (w : World) (h : IsInts w (.slice (some ⟨b, off, none⟩) 8 cap) [1, i, s, q, x, y, z, c]) (hcap : 8 ≤ cap) (hf : writeFault 1 i [x, y, z] s q ≠ 0) :
    Calls Try.prog 87 #[.slice (some ⟨b, off, none⟩) 8 cap] w fun e w' => ToldU w w' e (unpackW [1, i, s, q, x, y, z, c]) false := by
  have hc : ∀ j, j < 8 → w.cell? ⟨b, off + j, none⟩ = some (.int .i64 ([1, i, s, q, x, y, z, c].getD j 0)) := by
    obtain ⟨ao, cp, e, -, hc⟩ := h
    obtain ⟨b', off', rfl, hc1⟩ := hc (by simp)
    simp only [Value.slice.injEq, Option.some.injEq, Addr.mk.injEq, and_true] at e
    obtain ⟨⟨rfl, rfl⟩, -, -⟩ := e
    exact hc1
  have c0 : w.cell? ⟨b, off, none⟩ = some (.int .i64 1) := hc 0 (by omega)
  have c1 : w.cell? ⟨b, off + 1, none⟩ = some (.int .i64 i) := hc 1 (by omega)
  have c2 : w.cell? ⟨b, off + 2, none⟩ = some (.int .i64 s) := hc 2 (by omega)
  have c3 : w.cell? ⟨b, off + 3, none⟩ = some (.int .i64 q) := hc 3 (by omega)
  have hwf := h.wf
  have f0 : (Lit.int .i64 1).wf = true := hwf 1 (by simp)
  have f1 : (Lit.int .i64 i).wf = true := hwf i (by simp)
  have f2 : (Lit.int .i64 s).wf = true := hwf s (by simp)
  have f3 : (Lit.int .i64 q).wf = true := hwf q (by simp)
  have HV : Hid (∀ u ∈ [x, y, z], (Lit.int .i64 u).wf = true) := fun u hu => hwf u (by simp at hu; rcases hu with rfl | rfl | rfl <;> simp)
  have hv : IsInts w (.slice (some ⟨b, off + 4, none⟩) 3 (cap - 4)) [x, y, z] := by
    refine ⟨_, _, rfl, fun u hu => hwf u (by simp at hu; rcases hu with rfl | rfl | rfl <;> simp), fun _ => ⟨b, off + 4, rfl, fun j hj => ?_⟩⟩
    have := hc (4 + j) (by simp at hj; omega)
    rw [Nat.add_assoc, this]
    simp at hj
    rcases j with _ | _ | _ | j <;> first | rfl | omega
  have HF := hide (And.intro f0 (And.intro f1 (And.intro f2 f3)))
  have H := hide h
  have HFL := hide hf
  clear h hc hwf f0 f1 f2 f3 hf
  have nb : Below w.heap.size w (w.alloc (.cells #[.int .i64 0, .int .i64 0, .slice none 0 0, .int .i64 0, .int .i64 0] 58)) := (Below.refl _ _).alloc (Nat.le_refl _) _
  have bR : Box 0 #[.int .i64 0, .int .i64 0, .slice none 0 0, .int .i64 0, .int .i64 0] 58 (w.alloc (.cells #[.int .i64 0, .int .i64 0, .slice none 0 0, .int .i64 0, .int .i64 0] 58)) w.heap.size := newBox (Nat.zero_le _)
  have d0 := cell_keep nb c0
  have d1 := cell_keep nb c1
  have d2 := cell_keep nb c2
  have d3 := cell_keep nb c3
  clear c0 c1 c2 c3
  go_enter Try.func87, Try.ntmps87
  go_wp2_with fail
  generalize w.alloc (.cells #[.int .i64 0, .int .i64 0, .slice none 0 0, .int .i64 0, .int .i64 0] 58) = W0 at *
  first
    | go_region_held3 (fun w' => w'.cell? ⟨b, off, none⟩ = some (.int .i64 1) ∧ w'.cell? ⟨b, off + 1, none⟩ = some (.int .i64 i) ∧ w'.cell? ⟨b, off + 2, none⟩ = some (.int .i64 s) ∧ w'.cell? ⟨b, off + 3, none⟩ = some (.int .i64 q))
        (first
          | exact ⟨d0, d1, d2, d3⟩
          | (refine ⟨(World.grownBy_alloc _ _ none).cell ?_ (by simp), (World.grownBy_alloc _ _ none).cell ?_ (by simp), (World.grownBy_alloc _ _ none).cell ?_ (by simp), (World.grownBy_alloc _ _ none).cell ?_ (by simp)⟩ <;> assumption)
          | go_keep)
        (fail)
    | fail
  clear d0 d1 d2 d3
  have nb1 : Below W0.heap.size W0 (W0.alloc (.cells #[.int .i64 1, .int .i64 i, .slice none 0 0, .int .i64 s, .int .i64 q] 58)).drew := ((Below.refl _ _).alloc (Nat.le_refl _) _).drew
  have bX : Box 0 #[.int .i64 1, .int .i64 i, .slice none 0 0, .int .i64 s, .int .i64 q] 58 (W0.alloc (.cells #[.int .i64 1, .int .i64 i, .slice none 0 0, .int .i64 s, .int .i64 q] 58)).drew W0.heap.size := (newBox (Nat.zero_le _)).drew
  generalize (W0.alloc (.cells #[.int .i64 1, .int .i64 i, .slice none 0 0, .int .i64 s, .int .i64 q] 58)).drew = W1 at *
  have hX := bX.lt
  have hR := bR.lt
  replace bR := bR.keep nb1
  have HB1 := hide (nb.trans (nb1.mono nb.size))
  replace hv := (hv.later nb).later nb1
  clear nb nb1
  generalize hs0 : W0.heap.size = sx at *
  clear hs0
  have x0 := bX.at 0 _ rfl
  have x1 := bX.at 1 _ rfl
  have x2 := bX.at 2 _ rfl
  have x3 := bX.at 3 _ rfl
  have x4 := bX.at 4 _ rfl
  go_wp2_with fail
  refine (l1Ints _ [x, y, z] _ hv (by simp)).mono ?_
  rintro e w2 ⟨v2, rfl, O, hb⟩
  replace bR := bR.keep hb
  replace bX := bX.keep hb
  replace HB1 := hide ((unhide HB1).trans (hb.mono (unhide HB1).size))
  have hz2 := hb.size
  clear hb hv x0 x1 x2 x3 x4
  obtain ⟨a2, p2, rfl⟩ := own_shape O
  have x0 := bX.at 0 _ rfl
  have x1 := bX.at 1 _ rfl
  have x2 := bX.at 2 _ rfl
  have x3 := bX.at 3 _ rfl
  have x4 := bX.at 4 _ rfl
  have xf := bX.soft 2
  have hX2 := bX.lt
  have HO := hide O
  have HR := hide bR
  have HX := hide bX
  clear O bR bX
  simp only [List.length_cons, List.length_nil, Nat.zero_add, Nat.reduceAdd] at HO
  go_wp2_with fail
  have bX : Box 0 #[.int .i64 1, .int .i64 i, .slice a2 3 p2, .int .i64 s, .int .i64 q] 58 (w2.setCell ⟨sx, 2, none⟩ (.slice a2 3 p2)) sx := (unhide HX).set 2 (.slice a2 3 p2)
  have bR := (unhide HR).other ⟨sx, 2, none⟩ (.slice a2 3 p2) (by simp; omega)
  have O := own_setC (a := ⟨sx, 2, none⟩) (unhide HO) (by simpa using hX) (.slice a2 3 p2)
  have HB2 : Hid (Below w.heap.size w (w2.setCell ⟨sx, 2, none⟩ (.slice a2 3 p2))) := (unhide HB1).setCell (by simp; omega) _
  clear HB1
  have HB1 := HB2
  clear HB2
  clear HX HR HO x0 x1 x2 x3 x4 xf
  have hz3 : w2.heap.size ≤ (w2.setCell ⟨sx, 2, none⟩ (.slice a2 3 p2)).heap.size := by simp
  generalize w2.setCell ⟨sx, 2, none⟩ (.slice a2 3 p2) = W2 at *
  have HVI : Hid ((Lay.sl Lay.int).LiesIn W2 [.slice a2 3 p2] [x, y, z] (sx + 1) W2.heap.size) := ((Lay.ownInts (unhide HV) (by simp) O).mono (lo' := sx + 1) (by omega) (Nat.le_refl _)).lies
  clear O
  have hne : (writeFault 1 i [x, y, z] s q == 0) = false := by simpa using unhide HFL
  refine wp_region_noPanic ?_
  refine wp_region_held_drew (S := fun w' => Below w.heap.size w w' ∧ Box 0 #[.int .i64 1, .int .i64 i, .slice a2 3 p2, .int .i64 s, .int .i64 q] 58 w' sx ∧ (∃ cs : Array Value, cs.size = 5 ∧ Box 0 cs 58 w' w.heap.size) ∧ (Lay.sl Lay.int).LiesIn w' [.slice a2 3 p2] [x, y, z] (sx + 1) W2.heap.size ∧ W2.heap.size ≤ w'.heap.size) (by kernel_rfl) ⟨(unhide HB1).drew, bX.drew, ⟨_, rfl, bR.drew⟩, unhide HVI, Nat.le_refl _⟩ (fun hHeld => ?_)
  generalize W2.drew = wD at hHeld ⊢
  refine wpAnyH_take (i := 0) (oi := { dst := some 29, op := Go.Op.load 58 (Go.Operand.tmp 4), type := 58, pos := "l03_write.go:52", after := #[], guard := none }) (v := ?v0) rfl (by kernel_rfl) (by kernel_rfl) (by kernel_rfl) (fun _ _ _ h => h) (Or.inl ⟨by rfl, ?h0⟩) hHeld ?r0
  case h0 =>
    intro wS hSw
    have y0 := hSw.2.1.at 0 _ rfl
    have y1 := hSw.2.1.at 1 _ rfl
    have y2 := hSw.2.1.at 2 _ rfl
    have y3 := hSw.2.1.at 3 _ rfl
    have y4 := hSw.2.1.at 4 _ rfl
    simp only [List.getElem_toArray, List.getElem_cons_zero, List.getElem_cons_succ] at y0 y1 y2 y3 y4
    clear hSw
    (try dsimp only at hSw)
    go_simp
    try with_reducible rfl
  case r0 =>
  simp only [Act.put, List.setIfInBounds_toArray, List.set_cons_zero, List.set_cons_succ]
  refine wpAnyH_ready (rs := [1]) (by kernel_rfl) (by simp) ?_
  refine AllReadyH.cons (o := { dst := some 30, op := Go.Op.call { callee := Go.Callee.value (Go.Operand.func 53), args := #[Go.Operand.tmp 4], argTypes := #[77] }, type := 2, pos := "l03_write.go:52", after := #[], guard := none }) rfl (fun K hK => ?_) AllReadyH.nil
  go_simp
  go_at_call 53
  refine (l3Fault sx 1 i _ s q [x, y, z] _ ⟨hHeld.2.1.at 0 _ rfl, hHeld.2.1.at 1 _ rfl, hHeld.2.1.at 2 _ rfl, hHeld.2.1.at 3 _ rfl, hHeld.2.1.at 4 _ rfl⟩ (Lay.ints_reads hHeld.2.2.2.1.reads)).mono ?_
  rintro e wE ⟨rfl, hwe⟩
  subst hwe
  skip
  try go_wp2_with fail
  refine hK.out _ _ hHeld (fun hHeld => ?_)
  clear hK K
  try simp only [Act.put, List.setIfInBounds_toArray, List.set_cons_zero, List.set_cons_succ]
  refine wpAnyH_take (i := 2) (oi := { dst := some 31, op := Go.Op.binOp Go.BinOp.eql 2 (Go.Operand.tmp 30) (Go.Operand.const (Go.Value.int Go.IntKind.i64 0)) 2, type := 4, pos := "l03_write.go:52", after := #[{ on := 1, ground := Go.Ground.data }], guard := none }) (v := ?v2) rfl (by kernel_rfl) (by kernel_rfl) (by kernel_rfl) (fun _ _ _ h => h) (Or.inl ⟨by rfl, ?h2⟩) hHeld ?r2
  case h2 =>
    intro wS hSw
    (try dsimp only at hSw)
    go_simp
    try with_reducible rfl
  case r2 =>
  simp only [Act.put, List.setIfInBounds_toArray, List.set_cons_zero, List.set_cons_succ]
  refine wpAnyH_take (i := 3) (oi := { dst := some 32, op := Go.Op.move (Go.Operand.tmp 31), type := 4, pos := "l03_write.go:52", after := #[{ on := 2, ground := Go.Ground.data }, { on := 1, ground := Go.Ground.chain }], guard := none }) (v := ?v3) rfl (by kernel_rfl) (by kernel_rfl) (by kernel_rfl) (fun _ _ _ h => h) (Or.inl ⟨by rfl, ?h3⟩) hHeld ?r3
  case h3 =>
    intro wS hSw
    (try dsimp only at hSw)
    go_simp
    try with_reducible rfl
  case r3 =>
  simp only [Act.put, List.setIfInBounds_toArray, List.set_cons_zero, List.set_cons_succ]
  refine wpAnyH_take (i := 4) (oi := { dst := some 33, op := Go.Op.call { callee := Go.Callee.value (Go.Operand.func 66), args := #[Go.Operand.tmp 4], argTypes := #[77] }, type := 24, pos := "l03_write.go:52", after := #[{ on := 3, ground := Go.Ground.chain }, { on := 3, ground := Go.Ground.guard }], guard := some (3, true) }) (v := undef) rfl (by kernel_rfl) (by kernel_rfl) (by kernel_rfl) (fun _ _ _ h => h) (Or.inr ⟨by rfl, rfl⟩) hHeld ?_
  simp only [Act.put, List.setIfInBounds_toArray, List.set_cons_zero, List.set_cons_succ]
  refine wpAnyH_take (i := 5) (oi := { dst := some 34, op := Go.Op.move (Go.Operand.tmp 0), type := 24, pos := "l03_write.go:52", after := #[{ on := 3, ground := Go.Ground.guard }], guard := some (3, true) }) (v := undef) rfl (by kernel_rfl) (by kernel_rfl) (by kernel_rfl) (fun _ _ _ h => h) (Or.inr ⟨by rfl, rfl⟩) hHeld ?_
  simp only [Act.put, List.setIfInBounds_toArray, List.set_cons_zero, List.set_cons_succ]
  refine wpAnyH_take (i := 6) (oi := { dst := some 35, op := Go.Op.call { callee := Go.Callee.value (Go.Operand.func 100), args := #[Go.Operand.tmp 33, Go.Operand.tmp 34], argTypes := #[24, 24] }, type := 4, pos := "l03_write.go:52", after := #[{ on := 4, ground := Go.Ground.data }, { on := 5, ground := Go.Ground.data }, { on := 4, ground := Go.Ground.chain }, { on := 3, ground := Go.Ground.guard }], guard := some (3, true) }) (v := undef) rfl (by kernel_rfl) (by kernel_rfl) (by kernel_rfl) (fun _ _ _ h => h) (Or.inr ⟨by rfl, rfl⟩) hHeld ?_
  simp only [Act.put, List.setIfInBounds_toArray, List.set_cons_zero, List.set_cons_succ]
  refine wpAnyH_take (i := 7) (oi := { dst := some 36, op := Go.Op.pick (Go.Operand.tmp 32) (Go.Operand.tmp 35) (Go.Operand.const (Go.Value.bool false)), type := 4, pos := "l03_write.go:52", after := #[{ on := 3, ground := Go.Ground.data }, { on := 6, ground := Go.Ground.data }, { on := 8, ground := Go.Ground.gcOnly Go.Departure.lateStores }], guard := none }) (v := ?v7) rfl (by kernel_rfl) (by kernel_rfl) (by kernel_rfl) (fun _ _ _ h => h) (Or.inl ⟨by rfl, ?h7⟩) hHeld ?r7
  case h7 =>
    intro wS hSw
    (try dsimp only at hSw)
    go_simp
    try with_reducible rfl
  case r7 =>
  simp only [Act.put, List.setIfInBounds_toArray, List.set_cons_zero, List.set_cons_succ]
  refine wpAnyH_ready (rs := [8]) (by kernel_rfl) (by simp) ?_
  refine AllReadyH.cons (o := { dst := none, op := Go.Op.store 58 (Go.Operand.tmp 2) (Go.Operand.tmp 29), type := 0, pos := "l03_write.go:52", after := #[{ on := 0, ground := Go.Ground.data }, { on := 6, ground := Go.Ground.chain }, { on := 0, ground := Go.Ground.phase }, { on := 1, ground := Go.Ground.textOnly Go.Departure.lateStoresUnsure }, { on := 2, ground := Go.Ground.textOnly Go.Departure.lateStores }, { on := 3, ground := Go.Ground.textOnly Go.Departure.lateStores }, { on := 4, ground := Go.Ground.textOnly Go.Departure.lateStoresUnsure }, { on := 5, ground := Go.Ground.textOnly Go.Departure.lateStores }, { on := 6, ground := Go.Ground.textOnly Go.Departure.lateStoresUnsure }, { on := 7, ground := Go.Ground.textOnly Go.Departure.lateStores }], guard := none }) rfl (fun K hK => ?_) AllReadyH.nil
  obtain ⟨hb9, bX9, ⟨cs9, hs9, bR9⟩, hv9, hz9⟩ := hHeld
  obtain ⟨q0, q1, q2, q3, q4, rfl⟩ : ∃ q0 q1 q2 q3 q4 : Value, cs9 = #[q0, q1, q2, q3, q4] := by
    obtain ⟨l⟩ := cs9
    match l, hs9 with
    | [q0, q1, q2, q3, q4], _ => exact ⟨q0, q1, q2, q3, q4, rfl⟩
  have e0 : wE.cell? ⟨w.heap.size, 0, none⟩ = some q0 := bR9.at 0 _ rfl
  have e1 : wE.cell? ⟨w.heap.size, 1, none⟩ = some q1 := bR9.at 1 _ rfl
  have e2 : wE.cell? ⟨w.heap.size, 2, none⟩ = some q2 := bR9.at 2 _ rfl
  have e3 : wE.cell? ⟨w.heap.size, 3, none⟩ = some q3 := bR9.at 3 _ rfl
  have e4 : wE.cell? ⟨w.heap.size, 4, none⟩ = some q4 := bR9.at 4 _ rfl
  have ef : ∀ o, wE.frozen? ⟨w.heap.size, o, none⟩ = false := bR9.soft
  have el : w.heap.size < wE.heap.size := bR9.lt
  go_simp
  try go_wp2_with fail
  refine hK.out _ _ (storeS (vs := [.int .i64 1, .int .i64 i, .slice a2 3 p2, .int .i64 s, .int .i64 q]) hb9 bX9 bR9 hv9 hz9 (by omega) rfl) (fun hHeld => ?_)
  clear hK K
  try simp only [Act.put, List.setIfInBounds_toArray, List.set_cons_zero, List.set_cons_succ]
  refine wpAnyH_take (i := 9) (oi := { dst := some 3, op := Go.Op.assign (Go.Operand.tmp 36), type := 4, pos := "l03_write.go:52", after := #[{ on := 7, ground := Go.Ground.data }, { on := 8, ground := Go.Ground.chain }, { on := 0, ground := Go.Ground.phase }, { on := 1, ground := Go.Ground.phase }, { on := 2, ground := Go.Ground.phase }, { on := 3, ground := Go.Ground.phase }, { on := 4, ground := Go.Ground.phase }, { on := 5, ground := Go.Ground.phase }, { on := 6, ground := Go.Ground.phase }, { on := 7, ground := Go.Ground.phase }, { on := 8, ground := Go.Ground.phase }], guard := none }) (v := ?v9) rfl (by kernel_rfl) (by kernel_rfl) (by kernel_rfl) (fun _ _ _ h => h) (Or.inl ⟨by rfl, ?h9⟩) hHeld ?r9
  case h9 =>
    intro wS hSw
    (try dsimp only at hSw)
    go_simp
    try with_reducible rfl
  case r9 =>
  simp only [Act.put, List.setIfInBounds_toArray, List.set_cons_zero, List.set_cons_succ]
  refine wpAnyH_done (by kernel_rfl) ?_ _
  refine NoPanic.normal ?_
  have HS := hide hHeld
  clear hHeld
  go_wp2_with fail
  refine bodyPost_ret (v := .tuple #[.agg #[.int .i64 1, .int .i64 i, .slice a2 3 p2, .int .i64 s, .int .i64 q], .bool false]) (by simp [results, Try.results87, go_sem, e0, e1, e2, e3, e4]) rfl ?_
  obtain ⟨f0, f1, f2, f3⟩ := unhide HF
  have hlo : w.heap.size ≤ sx + 1 := by omega
  obtain ⟨s1, -, -, s4, s5⟩ := unhide HS
  refine ⟨[.int .i64 1, .int .i64 i, .slice a2 3 p2, .int .i64 s, .int .i64 q], rfl, ?_, s1⟩
  refine readsW (x := unpackW [1, i, s, q, x, y, z, c]) ?_ f0 f1 f2 f3
  rw [show (unpackW [1, i, s, q, x, y, z, c]).vec = [x, y, z] by simp [unpackW]]
  exact s4.mono hlo s5

end Go.Proofs.Ytipomhpimmnchaa

namespace Go.Proofs.Ytipomhpimmnchaa
open Go.RowKit

set_option maxRecDepth 100000 in
set_option maxHeartbeats 4000000 in
theorem l3Unpack_other_ok (b off cap : Nat) (k i s q x y z c : Int) (w : World) (h : IsInts w (.slice (some ⟨b, off, none⟩) 8 cap) [k, i, s, q, x, y, z, c]) (hk : k ≠ 1) (hf : writeFault k i [] s q = 0) :
    Calls Try.prog 87 #[.slice (some ⟨b, off, none⟩) 8 cap] w fun e w' => ToldU w w' e (unpackW [k, i, s, q, x, y, z, c]) (decide (wordsOf k i [] s q = [k, i, s, q, x, y, z, c])) := by
  have hc : ∀ j, j < 8 → w.cell? ⟨b, off + j, none⟩ = some (.int .i64 ([k, i, s, q, x, y, z, c].getD j 0)) := by
    obtain ⟨ao, cp, e, -, hc⟩ := h
    obtain ⟨b', off', rfl, hc1⟩ := hc (by simp)
    simp only [Value.slice.injEq, Option.some.injEq, Addr.mk.injEq, and_true] at e
    obtain ⟨⟨rfl, rfl⟩, -, -⟩ := e
    exact hc1
  have c0 : w.cell? ⟨b, off, none⟩ = some (.int .i64 k) := hc 0 (by omega)
  have c1 : w.cell? ⟨b, off + 1, none⟩ = some (.int .i64 i) := hc 1 (by omega)
  have c2 : w.cell? ⟨b, off + 2, none⟩ = some (.int .i64 s) := hc 2 (by omega)
  have c3 : w.cell? ⟨b, off + 3, none⟩ = some (.int .i64 q) := hc 3 (by omega)
  have hwf := h.wf
  have f0 : (Lit.int .i64 k).wf = true := hwf k (by simp)
  have f1 : (Lit.int .i64 i).wf = true := hwf i (by simp)
  have f2 : (Lit.int .i64 s).wf = true := hwf s (by simp)
  have f3 : (Lit.int .i64 q).wf = true := hwf q (by simp)
  have HF := hide (And.intro f0 (And.intro f1 (And.intro f2 f3)))
  have H := hide h
  have HFL := hide hf
  clear h hc hwf f0 f1 f2 f3 hf
  have nb : Below w.heap.size w (w.alloc (.cells #[.int .i64 0, .int .i64 0, .slice none 0 0, .int .i64 0, .int .i64 0] 58)) := (Below.refl _ _).alloc (Nat.le_refl _) _
  have bR : Box 0 #[.int .i64 0, .int .i64 0, .slice none 0 0, .int .i64 0, .int .i64 0] 58 (w.alloc (.cells #[.int .i64 0, .int .i64 0, .slice none 0 0, .int .i64 0, .int .i64 0] 58)) w.heap.size := newBox (Nat.zero_le _)
  have d0 := cell_keep nb c0
  have d1 := cell_keep nb c1
  have d2 := cell_keep nb c2
  have d3 := cell_keep nb c3
  clear c0 c1 c2 c3
  go_enter Try.func87, Try.ntmps87
  go_wp2_with fail
  generalize w.alloc (.cells #[.int .i64 0, .int .i64 0, .slice none 0 0, .int .i64 0, .int .i64 0] 58) = W0 at *
  first
    | go_region_held3 (fun w' => w'.cell? ⟨b, off, none⟩ = some (.int .i64 k) ∧ w'.cell? ⟨b, off + 1, none⟩ = some (.int .i64 i) ∧ w'.cell? ⟨b, off + 2, none⟩ = some (.int .i64 s) ∧ w'.cell? ⟨b, off + 3, none⟩ = some (.int .i64 q))
        (first
          | exact ⟨d0, d1, d2, d3⟩
          | (refine ⟨(World.grownBy_alloc _ _ none).cell ?_ (by simp), (World.grownBy_alloc _ _ none).cell ?_ (by simp), (World.grownBy_alloc _ _ none).cell ?_ (by simp), (World.grownBy_alloc _ _ none).cell ?_ (by simp)⟩ <;> assumption)
          | go_keep)
        (fail)
    | fail
  clear d0 d1 d2 d3
  have nb1 : Below W0.heap.size W0 (W0.alloc (.cells #[.int .i64 k, .int .i64 i, .slice none 0 0, .int .i64 s, .int .i64 q] 58)).drew := ((Below.refl _ _).alloc (Nat.le_refl _) _).drew
  have bX : Box 0 #[.int .i64 k, .int .i64 i, .slice none 0 0, .int .i64 s, .int .i64 q] 58 (W0.alloc (.cells #[.int .i64 k, .int .i64 i, .slice none 0 0, .int .i64 s, .int .i64 q] 58)).drew W0.heap.size := (newBox (Nat.zero_le _)).drew
  generalize (W0.alloc (.cells #[.int .i64 k, .int .i64 i, .slice none 0 0, .int .i64 s, .int .i64 q] 58)).drew = W1 at *
  have hX := bX.lt
  have hR := bR.lt
  replace bR := bR.keep nb1
  have HB1 := hide (nb.trans (nb1.mono nb.size))
  skip
  clear nb nb1
  generalize hs0 : W0.heap.size = sx at *
  clear hs0
  have x0 := bX.at 0 _ rfl
  have x1 := bX.at 1 _ rfl
  have x2 := bX.at 2 _ rfl
  have x3 := bX.at 3 _ rfl
  have x4 := bX.at 4 _ rfl
  have HR := hide bR
  have HX := hide bX
  clear bR bX
  go_wp2_with fail
  have bX := unhide HX
  have bR := unhide HR
  clear HX HR x0 x1 x2 x3 x4
  obtain ⟨W2, hW2⟩ : ∃ W2, W2 = W1 := ⟨_, rfl⟩
  subst hW2
  have HVI : Hid ((Lay.sl Lay.int).LiesIn W2 [.slice none 0 0] [] (sx + 1) W2.heap.size) := ⟨[], Lay.lies_ints.2 ⟨none, 0, rfl, ⟨by simp, by simp⟩, by simp, Or.inl ⟨rfl, rfl⟩⟩, by simp⟩
  have HWW : Hid (∀ u ∈ wordsOf k i [] s q, (Lit.int .i64 u).wf = true) := by
    have := packList_wf (k := k) (i := i) (s := s) (q := q) (zs := [])
    rw [packList, if_pos (unhide HFL)] at this
    exact this
  refine wp_region_noPanic ?_
  refine wp_region_held_drew (S := fun w' => Below w.heap.size w w' ∧ Box 0 #[.int .i64 k, .int .i64 i, .slice none 0 0, .int .i64 s, .int .i64 q] 58 w' sx ∧ (∃ cs : Array Value, cs.size = 5 ∧ Box 0 cs 58 w' w.heap.size) ∧ (Lay.sl Lay.int).LiesIn w' [.slice none 0 0] [] (sx + 1) W2.heap.size ∧ W2.heap.size ≤ w'.heap.size) (by kernel_rfl) ⟨(unhide HB1).drew, bX.drew, ⟨_, rfl, bR.drew⟩, unhide HVI, Nat.le_refl _⟩ (fun hHeld => ?_)
  generalize W2.drew = wD at hHeld ⊢
  refine wpAnyH_take (i := 0) (oi := { dst := some 29, op := Go.Op.load 58 (Go.Operand.tmp 4), type := 58, pos := "l03_write.go:52", after := #[], guard := none }) (v := ?v0) rfl (by kernel_rfl) (by kernel_rfl) (by kernel_rfl) (fun _ _ _ h => h) (Or.inl ⟨by rfl, ?h0⟩) hHeld ?r0
  case h0 =>
    intro wS hSw
    have y0 := hSw.2.1.at 0 _ rfl
    have y1 := hSw.2.1.at 1 _ rfl
    have y2 := hSw.2.1.at 2 _ rfl
    have y3 := hSw.2.1.at 3 _ rfl
    have y4 := hSw.2.1.at 4 _ rfl
    simp only [List.getElem_toArray, List.getElem_cons_zero, List.getElem_cons_succ] at y0 y1 y2 y3 y4
    clear hSw
    (try dsimp only at hSw)
    go_simp
    try with_reducible rfl
  case r0 =>
  simp only [Act.put, List.setIfInBounds_toArray, List.set_cons_zero, List.set_cons_succ]
  refine wpAnyH_ready (rs := [1]) (by kernel_rfl) (by simp) ?_
  refine AllReadyH.cons (o := { dst := some 30, op := Go.Op.call { callee := Go.Callee.value (Go.Operand.func 53), args := #[Go.Operand.tmp 4], argTypes := #[77] }, type := 2, pos := "l03_write.go:52", after := #[], guard := none }) rfl (fun K hK => ?_) AllReadyH.nil
  go_simp
  go_at_call 53
  refine (l3Fault sx k i _ s q [] _ ⟨hHeld.2.1.at 0 _ rfl, hHeld.2.1.at 1 _ rfl, hHeld.2.1.at 2 _ rfl, hHeld.2.1.at 3 _ rfl, hHeld.2.1.at 4 _ rfl⟩ (Lay.ints_reads hHeld.2.2.2.1.reads)).mono ?_
  rintro e wE ⟨rfl, hwe⟩
  subst hwe
  rw [unhide HFL]
  try go_wp2_with fail
  refine hK.out _ _ hHeld (fun hHeld => ?_)
  clear hK K
  try simp only [Act.put, List.setIfInBounds_toArray, List.set_cons_zero, List.set_cons_succ]
  refine wpAnyH_take (i := 2) (oi := { dst := some 31, op := Go.Op.binOp Go.BinOp.eql 2 (Go.Operand.tmp 30) (Go.Operand.const (Go.Value.int Go.IntKind.i64 0)) 2, type := 4, pos := "l03_write.go:52", after := #[{ on := 1, ground := Go.Ground.data }], guard := none }) (v := ?v2) rfl (by kernel_rfl) (by kernel_rfl) (by kernel_rfl) (fun _ _ _ h => h) (Or.inl ⟨by rfl, ?h2⟩) hHeld ?r2
  case h2 =>
    intro wS hSw
    (try dsimp only at hSw)
    go_simp
    try with_reducible rfl
  case r2 =>
  simp only [Act.put, List.setIfInBounds_toArray, List.set_cons_zero, List.set_cons_succ]
  refine wpAnyH_take (i := 3) (oi := { dst := some 32, op := Go.Op.move (Go.Operand.tmp 31), type := 4, pos := "l03_write.go:52", after := #[{ on := 2, ground := Go.Ground.data }, { on := 1, ground := Go.Ground.chain }], guard := none }) (v := ?v3) rfl (by kernel_rfl) (by kernel_rfl) (by kernel_rfl) (fun _ _ _ h => h) (Or.inl ⟨by rfl, ?h3⟩) hHeld ?r3
  case h3 =>
    intro wS hSw
    (try dsimp only at hSw)
    go_simp
    try with_reducible rfl
  case r3 =>
  simp only [Act.put, List.setIfInBounds_toArray, List.set_cons_zero, List.set_cons_succ]
  refine wpAnyH_take (i := 5) (oi := { dst := some 34, op := Go.Op.move (Go.Operand.tmp 0), type := 24, pos := "l03_write.go:52", after := #[{ on := 3, ground := Go.Ground.guard }], guard := some (3, true) }) (v := ?v5) rfl (by kernel_rfl) (by kernel_rfl) (by kernel_rfl) (fun _ _ _ h => h) (Or.inl ⟨by rfl, ?h5⟩) hHeld ?r5
  case h5 =>
    intro wS hSw
    (try dsimp only at hSw)
    go_simp
    try with_reducible rfl
  case r5 =>
  simp only [Act.put, List.setIfInBounds_toArray, List.set_cons_zero, List.set_cons_succ]
  refine wpAnyH_ready (rs := [4]) (by kernel_rfl) (by simp) ?_
  refine AllReadyH.cons (o := { dst := some 33, op := Go.Op.call { callee := Go.Callee.value (Go.Operand.func 66), args := #[Go.Operand.tmp 4], argTypes := #[77] }, type := 24, pos := "l03_write.go:52", after := #[{ on := 3, ground := Go.Ground.chain }, { on := 3, ground := Go.Ground.guard }], guard := some (3, true) }) rfl (fun K hK => ?_) AllReadyH.nil
  go_simp
  go_at_call 66
  refine (l3Pack sx k i _ s q [] _ ⟨hHeld.2.1.at 0 _ rfl, hHeld.2.1.at 1 _ rfl, hHeld.2.1.at 2 _ rfl, hHeld.2.1.at 3 _ rfl, hHeld.2.1.at 4 _ rfl⟩ (Lay.ints_reads hHeld.2.2.2.1.reads) (unhide HFL)).mono ?_
  rintro e w4 ⟨g4, rfl, O4, hbw⟩
  have I4 := isInts_row (zs := wordsOf k i [] s q) (unhide HWW) O4
  try go_wp2_with fail
  refine hK.out _ _ ⟨hHeld.1.trans (hbw.mono hHeld.1.size), hHeld.2.1.keep hbw, (by obtain ⟨cs, h1, h2⟩ := hHeld.2.2.1; exact ⟨cs, h1, h2.keep hbw⟩), hHeld.2.2.2.1.later hbw, Nat.le_trans hHeld.2.2.2.2 hbw.size⟩ (fun hHeld => ?_)
  clear hK K
  try simp only [Act.put, List.setIfInBounds_toArray, List.set_cons_zero, List.set_cons_succ]
  refine wpAnyH_ready (rs := [6]) (by kernel_rfl) (by simp) ?_
  refine AllReadyH.cons (o := { dst := some 35, op := Go.Op.call { callee := Go.Callee.value (Go.Operand.func 100), args := #[Go.Operand.tmp 33, Go.Operand.tmp 34], argTypes := #[24, 24] }, type := 4, pos := "l03_write.go:52", after := #[{ on := 4, ground := Go.Ground.data }, { on := 5, ground := Go.Ground.data }, { on := 4, ground := Go.Ground.chain }, { on := 3, ground := Go.Ground.guard }], guard := some (3, true) }) rfl (fun K hK => ?_) AllReadyH.nil
  go_simp
  go_at_call 100
  refine (l1Same _ _ (wordsOf k i [] s q) [k, i, s, q, x, y, z, c] _ I4 ((unhide H).later hHeld.1) (by simp [wordsOf])).mono ?_
  rintro e w5 ⟨rfl, hbw⟩
  try go_wp2_with fail
  refine hK.out _ _ ⟨hHeld.1.trans (hbw.mono hHeld.1.size), hHeld.2.1.keep hbw, (by obtain ⟨cs, h1, h2⟩ := hHeld.2.2.1; exact ⟨cs, h1, h2.keep hbw⟩), hHeld.2.2.2.1.later hbw, Nat.le_trans hHeld.2.2.2.2 hbw.size⟩ (fun hHeld => ?_)
  clear hK K
  try simp only [Act.put, List.setIfInBounds_toArray, List.set_cons_zero, List.set_cons_succ]
  refine wpAnyH_take (i := 7) (oi := { dst := some 36, op := Go.Op.pick (Go.Operand.tmp 32) (Go.Operand.tmp 35) (Go.Operand.const (Go.Value.bool false)), type := 4, pos := "l03_write.go:52", after := #[{ on := 3, ground := Go.Ground.data }, { on := 6, ground := Go.Ground.data }, { on := 8, ground := Go.Ground.gcOnly Go.Departure.lateStores }], guard := none }) (v := ?v7) rfl (by kernel_rfl) (by kernel_rfl) (by kernel_rfl) (fun _ _ _ h => h) (Or.inl ⟨by rfl, ?h7⟩) hHeld ?r7
  case h7 =>
    intro wS hSw
    (try dsimp only at hSw)
    go_simp
    try with_reducible rfl
  case r7 =>
  simp only [Act.put, List.setIfInBounds_toArray, List.set_cons_zero, List.set_cons_succ]
  refine wpAnyH_ready (rs := [8]) (by kernel_rfl) (by simp) ?_
  refine AllReadyH.cons (o := { dst := none, op := Go.Op.store 58 (Go.Operand.tmp 2) (Go.Operand.tmp 29), type := 0, pos := "l03_write.go:52", after := #[{ on := 0, ground := Go.Ground.data }, { on := 6, ground := Go.Ground.chain }, { on := 0, ground := Go.Ground.phase }, { on := 1, ground := Go.Ground.textOnly Go.Departure.lateStoresUnsure }, { on := 2, ground := Go.Ground.textOnly Go.Departure.lateStores }, { on := 3, ground := Go.Ground.textOnly Go.Departure.lateStores }, { on := 4, ground := Go.Ground.textOnly Go.Departure.lateStoresUnsure }, { on := 5, ground := Go.Ground.textOnly Go.Departure.lateStores }, { on := 6, ground := Go.Ground.textOnly Go.Departure.lateStoresUnsure }, { on := 7, ground := Go.Ground.textOnly Go.Departure.lateStores }], guard := none }) rfl (fun K hK => ?_) AllReadyH.nil
  obtain ⟨hb9, bX9, ⟨cs9, hs9, bR9⟩, hv9, hz9⟩ := hHeld
  obtain ⟨q0, q1, q2, q3, q4, rfl⟩ : ∃ q0 q1 q2 q3 q4 : Value, cs9 = #[q0, q1, q2, q3, q4] := by
    obtain ⟨l⟩ := cs9
    match l, hs9 with
    | [q0, q1, q2, q3, q4], _ => exact ⟨q0, q1, q2, q3, q4, rfl⟩
  have e0 : w5.cell? ⟨w.heap.size, 0, none⟩ = some q0 := bR9.at 0 _ rfl
  have e1 : w5.cell? ⟨w.heap.size, 1, none⟩ = some q1 := bR9.at 1 _ rfl
  have e2 : w5.cell? ⟨w.heap.size, 2, none⟩ = some q2 := bR9.at 2 _ rfl
  have e3 : w5.cell? ⟨w.heap.size, 3, none⟩ = some q3 := bR9.at 3 _ rfl
  have e4 : w5.cell? ⟨w.heap.size, 4, none⟩ = some q4 := bR9.at 4 _ rfl
  have ef : ∀ o, w5.frozen? ⟨w.heap.size, o, none⟩ = false := bR9.soft
  have el : w.heap.size < w5.heap.size := bR9.lt
  go_simp
  try go_wp2_with fail
  refine hK.out _ _ (storeS (vs := [.int .i64 k, .int .i64 i, .slice none 0 0, .int .i64 s, .int .i64 q]) hb9 bX9 bR9 hv9 hz9 (by omega) rfl) (fun hHeld => ?_)
  clear hK K
  try simp only [Act.put, List.setIfInBounds_toArray, List.set_cons_zero, List.set_cons_succ]
  refine wpAnyH_take (i := 9) (oi := { dst := some 3, op := Go.Op.assign (Go.Operand.tmp 36), type := 4, pos := "l03_write.go:52", after := #[{ on := 7, ground := Go.Ground.data }, { on := 8, ground := Go.Ground.chain }, { on := 0, ground := Go.Ground.phase }, { on := 1, ground := Go.Ground.phase }, { on := 2, ground := Go.Ground.phase }, { on := 3, ground := Go.Ground.phase }, { on := 4, ground := Go.Ground.phase }, { on := 5, ground := Go.Ground.phase }, { on := 6, ground := Go.Ground.phase }, { on := 7, ground := Go.Ground.phase }, { on := 8, ground := Go.Ground.phase }], guard := none }) (v := ?v9) rfl (by kernel_rfl) (by kernel_rfl) (by kernel_rfl) (fun _ _ _ h => h) (Or.inl ⟨by rfl, ?h9⟩) hHeld ?r9
  case h9 =>
    intro wS hSw
    (try dsimp only at hSw)
    go_simp
    try with_reducible rfl
  case r9 =>
  simp only [Act.put, List.setIfInBounds_toArray, List.set_cons_zero, List.set_cons_succ]
  refine wpAnyH_done (by kernel_rfl) ?_ _
  refine NoPanic.normal ?_
  have HS := hide hHeld
  clear hHeld
  go_wp2_with fail
  refine bodyPost_ret (v := .tuple #[.agg #[.int .i64 k, .int .i64 i, .slice none 0 0, .int .i64 s, .int .i64 q], .bool (decide (wordsOf k i [] s q = [k, i, s, q, x, y, z, c]))]) (by simp [results, Try.results87, go_sem, e0, e1, e2, e3, e4]) rfl ?_
  obtain ⟨f0, f1, f2, f3⟩ := unhide HF
  have hlo : w.heap.size ≤ sx + 1 := by omega
  obtain ⟨s1, -, -, s4, s5⟩ := unhide HS
  refine ⟨[.int .i64 k, .int .i64 i, .slice none 0 0, .int .i64 s, .int .i64 q], rfl, ?_, s1⟩
  refine readsW (x := unpackW [k, i, s, q, x, y, z, c]) ?_ f0 f1 f2 f3
  rw [show (unpackW [k, i, s, q, x, y, z, c]).vec = [] by simp [unpackW, hk]]
  exact s4.mono hlo s5

end Go.Proofs.Ytipomhpimmnchaa

namespace Go.Proofs.Ytipomhpimmnchaa
open Go.RowKit

set_option maxRecDepth 100000 in
set_option maxHeartbeats 4000000 in
theorem l3Unpack_other_bad (b off cap : Nat) (k i s q x y z c : Int) (w : World) (h : IsInts w (.slice (some ⟨b, off, none⟩) 8 cap) [k, i, s, q, x, y, z, c]) (hk : k ≠ 1) (hf : writeFault k i [] s q ≠ 0) :
    Calls Try.prog 87 #[.slice (some ⟨b, off, none⟩) 8 cap] w fun e w' => ToldU w w' e (unpackW [k, i, s, q, x, y, z, c]) false := by
  have hc : ∀ j, j < 8 → w.cell? ⟨b, off + j, none⟩ = some (.int .i64 ([k, i, s, q, x, y, z, c].getD j 0)) := by
    obtain ⟨ao, cp, e, -, hc⟩ := h
    obtain ⟨b', off', rfl, hc1⟩ := hc (by simp)
    simp only [Value.slice.injEq, Option.some.injEq, Addr.mk.injEq, and_true] at e
    obtain ⟨⟨rfl, rfl⟩, -, -⟩ := e
    exact hc1
  have c0 : w.cell? ⟨b, off, none⟩ = some (.int .i64 k) := hc 0 (by omega)
  have c1 : w.cell? ⟨b, off + 1, none⟩ = some (.int .i64 i) := hc 1 (by omega)
  have c2 : w.cell? ⟨b, off + 2, none⟩ = some (.int .i64 s) := hc 2 (by omega)
  have c3 : w.cell? ⟨b, off + 3, none⟩ = some (.int .i64 q) := hc 3 (by omega)
  have hwf := h.wf
  have f0 : (Lit.int .i64 k).wf = true := hwf k (by simp)
  have f1 : (Lit.int .i64 i).wf = true := hwf i (by simp)
  have f2 : (Lit.int .i64 s).wf = true := hwf s (by simp)
  have f3 : (Lit.int .i64 q).wf = true := hwf q (by simp)
  have HF := hide (And.intro f0 (And.intro f1 (And.intro f2 f3)))
  have H := hide h
  have HFL := hide hf
  clear h hc hwf f0 f1 f2 f3 hf
  have nb : Below w.heap.size w (w.alloc (.cells #[.int .i64 0, .int .i64 0, .slice none 0 0, .int .i64 0, .int .i64 0] 58)) := (Below.refl _ _).alloc (Nat.le_refl _) _
  have bR : Box 0 #[.int .i64 0, .int .i64 0, .slice none 0 0, .int .i64 0, .int .i64 0] 58 (w.alloc (.cells #[.int .i64 0, .int .i64 0, .slice none 0 0, .int .i64 0, .int .i64 0] 58)) w.heap.size := newBox (Nat.zero_le _)
  have d0 := cell_keep nb c0
  have d1 := cell_keep nb c1
  have d2 := cell_keep nb c2
  have d3 := cell_keep nb c3
  clear c0 c1 c2 c3
  go_enter Try.func87, Try.ntmps87
  go_wp2_with fail
  generalize w.alloc (.cells #[.int .i64 0, .int .i64 0, .slice none 0 0, .int .i64 0, .int .i64 0] 58) = W0 at *
  first
    | go_region_held3 (fun w' => w'.cell? ⟨b, off, none⟩ = some (.int .i64 k) ∧ w'.cell? ⟨b, off + 1, none⟩ = some (.int .i64 i) ∧ w'.cell? ⟨b, off + 2, none⟩ = some (.int .i64 s) ∧ w'.cell? ⟨b, off + 3, none⟩ = some (.int .i64 q))
        (first
          | exact ⟨d0, d1, d2, d3⟩
          | (refine ⟨(World.grownBy_alloc _ _ none).cell ?_ (by simp), (World.grownBy_alloc _ _ none).cell ?_ (by simp), (World.grownBy_alloc _ _ none).cell ?_ (by simp), (World.grownBy_alloc _ _ none).cell ?_ (by simp)⟩ <;> assumption)
          | go_keep)
        (fail)
    | fail
  clear d0 d1 d2 d3
  have nb1 : Below W0.heap.size W0 (W0.alloc (.cells #[.int .i64 k, .int .i64 i, .slice none 0 0, .int .i64 s, .int .i64 q] 58)).drew := ((Below.refl _ _).alloc (Nat.le_refl _) _).drew
  have bX : Box 0 #[.int .i64 k, .int .i64 i, .slice none 0 0, .int .i64 s, .int .i64 q] 58 (W0.alloc (.cells #[.int .i64 k, .int .i64 i, .slice none 0 0, .int .i64 s, .int .i64 q] 58)).drew W0.heap.size := (newBox (Nat.zero_le _)).drew
  generalize (W0.alloc (.cells #[.int .i64 k, .int .i64 i, .slice none 0 0, .int .i64 s, .int .i64 q] 58)).drew = W1 at *
  have hX := bX.lt
  have hR := bR.lt
  replace bR := bR.keep nb1
  have HB1 := hide (nb.trans (nb1.mono nb.size))
  skip
  clear nb nb1
  generalize hs0 : W0.heap.size = sx at *
  clear hs0
  have x0 := bX.at 0 _ rfl
  have x1 := bX.at 1 _ rfl
  have x2 := bX.at 2 _ rfl
  have x3 := bX.at 3 _ rfl
  have x4 := bX.at 4 _ rfl
  have HR := hide bR
  have HX := hide bX
  clear bR bX
  go_wp2_with fail
  have bX := unhide HX
  have bR := unhide HR
  clear HX HR x0 x1 x2 x3 x4
  obtain ⟨W2, hW2⟩ : ∃ W2, W2 = W1 := ⟨_, rfl⟩
  subst hW2
  have HVI : Hid ((Lay.sl Lay.int).LiesIn W2 [.slice none 0 0] [] (sx + 1) W2.heap.size) := ⟨[], Lay.lies_ints.2 ⟨none, 0, rfl, ⟨by simp, by simp⟩, by simp, Or.inl ⟨rfl, rfl⟩⟩, by simp⟩
  have hne : (writeFault k i [] s q == 0) = false := by simpa using unhide HFL
  refine wp_region_noPanic ?_
  refine wp_region_held_drew (S := fun w' => Below w.heap.size w w' ∧ Box 0 #[.int .i64 k, .int .i64 i, .slice none 0 0, .int .i64 s, .int .i64 q] 58 w' sx ∧ (∃ cs : Array Value, cs.size = 5 ∧ Box 0 cs 58 w' w.heap.size) ∧ (Lay.sl Lay.int).LiesIn w' [.slice none 0 0] [] (sx + 1) W2.heap.size ∧ W2.heap.size ≤ w'.heap.size) (by kernel_rfl) ⟨(unhide HB1).drew, bX.drew, ⟨_, rfl, bR.drew⟩, unhide HVI, Nat.le_refl _⟩ (fun hHeld => ?_)
  generalize W2.drew = wD at hHeld ⊢
  refine wpAnyH_take (i := 0) (oi := { dst := some 29, op := Go.Op.load 58 (Go.Operand.tmp 4), type := 58, pos := "l03_write.go:52", after := #[], guard := none }) (v := ?v0) rfl (by kernel_rfl) (by kernel_rfl) (by kernel_rfl) (fun _ _ _ h => h) (Or.inl ⟨by rfl, ?h0⟩) hHeld ?r0
  case h0 =>
    intro wS hSw
    have y0 := hSw.2.1.at 0 _ rfl
    have y1 := hSw.2.1.at 1 _ rfl
    have y2 := hSw.2.1.at 2 _ rfl
    have y3 := hSw.2.1.at 3 _ rfl
    have y4 := hSw.2.1.at 4 _ rfl
    simp only [List.getElem_toArray, List.getElem_cons_zero, List.getElem_cons_succ] at y0 y1 y2 y3 y4
    clear hSw
    (try dsimp only at hSw)
    go_simp
    try with_reducible rfl
  case r0 =>
  simp only [Act.put, List.setIfInBounds_toArray, List.set_cons_zero, List.set_cons_succ]
  refine wpAnyH_ready (rs := [1]) (by kernel_rfl) (by simp) ?_
  refine AllReadyH.cons (o := { dst := some 30, op := Go.Op.call { callee := Go.Callee.value (Go.Operand.func 53), args := #[Go.Operand.tmp 4], argTypes := #[77] }, type := 2, pos := "l03_write.go:52", after := #[], guard := none }) rfl (fun K hK => ?_) AllReadyH.nil
  go_simp
  go_at_call 53
  refine (l3Fault sx k i _ s q [] _ ⟨hHeld.2.1.at 0 _ rfl, hHeld.2.1.at 1 _ rfl, hHeld.2.1.at 2 _ rfl, hHeld.2.1.at 3 _ rfl, hHeld.2.1.at 4 _ rfl⟩ (Lay.ints_reads hHeld.2.2.2.1.reads)).mono ?_
  rintro e wE ⟨rfl, hwe⟩
  subst hwe
  skip
  try go_wp2_with fail
  refine hK.out _ _ hHeld (fun hHeld => ?_)
  clear hK K
  try simp only [Act.put, List.setIfInBounds_toArray, List.set_cons_zero, List.set_cons_succ]
  refine wpAnyH_take (i := 2) (oi := { dst := some 31, op := Go.Op.binOp Go.BinOp.eql 2 (Go.Operand.tmp 30) (Go.Operand.const (Go.Value.int Go.IntKind.i64 0)) 2, type := 4, pos := "l03_write.go:52", after := #[{ on := 1, ground := Go.Ground.data }], guard := none }) (v := ?v2) rfl (by kernel_rfl) (by kernel_rfl) (by kernel_rfl) (fun _ _ _ h => h) (Or.inl ⟨by rfl, ?h2⟩) hHeld ?r2
  case h2 =>
    intro wS hSw
    (try dsimp only at hSw)
    go_simp
    try with_reducible rfl
  case r2 =>
  simp only [Act.put, List.setIfInBounds_toArray, List.set_cons_zero, List.set_cons_succ]
  refine wpAnyH_take (i := 3) (oi := { dst := some 32, op := Go.Op.move (Go.Operand.tmp 31), type := 4, pos := "l03_write.go:52", after := #[{ on := 2, ground := Go.Ground.data }, { on := 1, ground := Go.Ground.chain }], guard := none }) (v := ?v3) rfl (by kernel_rfl) (by kernel_rfl) (by kernel_rfl) (fun _ _ _ h => h) (Or.inl ⟨by rfl, ?h3⟩) hHeld ?r3
  case h3 =>
    intro wS hSw
    (try dsimp only at hSw)
    go_simp
    try with_reducible rfl
  case r3 =>
  simp only [Act.put, List.setIfInBounds_toArray, List.set_cons_zero, List.set_cons_succ]
  refine wpAnyH_take (i := 4) (oi := { dst := some 33, op := Go.Op.call { callee := Go.Callee.value (Go.Operand.func 66), args := #[Go.Operand.tmp 4], argTypes := #[77] }, type := 24, pos := "l03_write.go:52", after := #[{ on := 3, ground := Go.Ground.chain }, { on := 3, ground := Go.Ground.guard }], guard := some (3, true) }) (v := undef) rfl (by kernel_rfl) (by kernel_rfl) (by kernel_rfl) (fun _ _ _ h => h) (Or.inr ⟨by rfl, rfl⟩) hHeld ?_
  simp only [Act.put, List.setIfInBounds_toArray, List.set_cons_zero, List.set_cons_succ]
  refine wpAnyH_take (i := 5) (oi := { dst := some 34, op := Go.Op.move (Go.Operand.tmp 0), type := 24, pos := "l03_write.go:52", after := #[{ on := 3, ground := Go.Ground.guard }], guard := some (3, true) }) (v := undef) rfl (by kernel_rfl) (by kernel_rfl) (by kernel_rfl) (fun _ _ _ h => h) (Or.inr ⟨by rfl, rfl⟩) hHeld ?_
  simp only [Act.put, List.setIfInBounds_toArray, List.set_cons_zero, List.set_cons_succ]
  refine wpAnyH_take (i := 6) (oi := { dst := some 35, op := Go.Op.call { callee := Go.Callee.value (Go.Operand.func 100), args := #[Go.Operand.tmp 33, Go.Operand.tmp 34], argTypes := #[24, 24] }, type := 4, pos := "l03_write.go:52", after := #[{ on := 4, ground := Go.Ground.data }, { on := 5, ground := Go.Ground.data }, { on := 4, ground := Go.Ground.chain }, { on := 3, ground := Go.Ground.guard }], guard := some (3, true) }) (v := undef) rfl (by kernel_rfl) (by kernel_rfl) (by kernel_rfl) (fun _ _ _ h => h) (Or.inr ⟨by rfl, rfl⟩) hHeld ?_
  simp only [Act.put, List.setIfInBounds_toArray, List.set_cons_zero, List.set_cons_succ]
  refine wpAnyH_take (i := 7) (oi := { dst := some 36, op := Go.Op.pick (Go.Operand.tmp 32) (Go.Operand.tmp 35) (Go.Operand.const (Go.Value.bool false)), type := 4, pos := "l03_write.go:52", after := #[{ on := 3, ground := Go.Ground.data }, { on := 6, ground := Go.Ground.data }, { on := 8, ground := Go.Ground.gcOnly Go.Departure.lateStores }], guard := none }) (v := ?v7) rfl (by kernel_rfl) (by kernel_rfl) (by kernel_rfl) (fun _ _ _ h => h) (Or.inl ⟨by rfl, ?h7⟩) hHeld ?r7
  case h7 =>
    intro wS hSw
    (try dsimp only at hSw)
    go_simp
    try with_reducible rfl
  case r7 =>
  simp only [Act.put, List.setIfInBounds_toArray, List.set_cons_zero, List.set_cons_succ]
  refine wpAnyH_ready (rs := [8]) (by kernel_rfl) (by simp) ?_
  refine AllReadyH.cons (o := { dst := none, op := Go.Op.store 58 (Go.Operand.tmp 2) (Go.Operand.tmp 29), type := 0, pos := "l03_write.go:52", after := #[{ on := 0, ground := Go.Ground.data }, { on := 6, ground := Go.Ground.chain }, { on := 0, ground := Go.Ground.phase }, { on := 1, ground := Go.Ground.textOnly Go.Departure.lateStoresUnsure }, { on := 2, ground := Go.Ground.textOnly Go.Departure.lateStores }, { on := 3, ground := Go.Ground.textOnly Go.Departure.lateStores }, { on := 4, ground := Go.Ground.textOnly Go.Departure.lateStoresUnsure }, { on := 5, ground := Go.Ground.textOnly Go.Departure.lateStores }, { on := 6, ground := Go.Ground.textOnly Go.Departure.lateStoresUnsure }, { on := 7, ground := Go.Ground.textOnly Go.Departure.lateStores }], guard := none }) rfl (fun K hK => ?_) AllReadyH.nil
  obtain ⟨hb9, bX9, ⟨cs9, hs9, bR9⟩, hv9, hz9⟩ := hHeld
  obtain ⟨q0, q1, q2, q3, q4, rfl⟩ : ∃ q0 q1 q2 q3 q4 : Value, cs9 = #[q0, q1, q2, q3, q4] := by
    obtain ⟨l⟩ := cs9
    match l, hs9 with
    | [q0, q1, q2, q3, q4], _ => exact ⟨q0, q1, q2, q3, q4, rfl⟩
  have e0 : wE.cell? ⟨w.heap.size, 0, none⟩ = some q0 := bR9.at 0 _ rfl
  have e1 : wE.cell? ⟨w.heap.size, 1, none⟩ = some q1 := bR9.at 1 _ rfl
  have e2 : wE.cell? ⟨w.heap.size, 2, none⟩ = some q2 := bR9.at 2 _ rfl
  have e3 : wE.cell? ⟨w.heap.size, 3, none⟩ = some q3 := bR9.at 3 _ rfl
  have e4 : wE.cell? ⟨w.heap.size, 4, none⟩ = some q4 := bR9.at 4 _ rfl
  have ef : ∀ o, wE.frozen? ⟨w.heap.size, o, none⟩ = false := bR9.soft
  have el : w.heap.size < wE.heap.size := bR9.lt
  go_simp
  try go_wp2_with fail
  refine hK.out _ _ (storeS (vs := [.int .i64 k, .int .i64 i, .slice none 0 0, .int .i64 s, .int .i64 q]) hb9 bX9 bR9 hv9 hz9 (by omega) rfl) (fun hHeld => ?_)
  clear hK K
  try simp only [Act.put, List.setIfInBounds_toArray, List.set_cons_zero, List.set_cons_succ]
  refine wpAnyH_take (i := 9) (oi := { dst := some 3, op := Go.Op.assign (Go.Operand.tmp 36), type := 4, pos := "l03_write.go:52", after := #[{ on := 7, ground := Go.Ground.data }, { on := 8, ground := Go.Ground.chain }, { on := 0, ground := Go.Ground.phase }, { on := 1, ground := Go.Ground.phase }, { on := 2, ground := Go.Ground.phase }, { on := 3, ground := Go.Ground.phase }, { on := 4, ground := Go.Ground.phase }, { on := 5, ground := Go.Ground.phase }, { on := 6, ground := Go.Ground.phase }, { on := 7, ground := Go.Ground.phase }, { on := 8, ground := Go.Ground.phase }], guard := none }) (v := ?v9) rfl (by kernel_rfl) (by kernel_rfl) (by kernel_rfl) (fun _ _ _ h => h) (Or.inl ⟨by rfl, ?h9⟩) hHeld ?r9
  case h9 =>
    intro wS hSw
    (try dsimp only at hSw)
    go_simp
    try with_reducible rfl
  case r9 =>
  simp only [Act.put, List.setIfInBounds_toArray, List.set_cons_zero, List.set_cons_succ]
  refine wpAnyH_done (by kernel_rfl) ?_ _
  refine NoPanic.normal ?_
  have HS := hide hHeld
  clear hHeld
  go_wp2_with fail
  refine bodyPost_ret (v := .tuple #[.agg #[.int .i64 k, .int .i64 i, .slice none 0 0, .int .i64 s, .int .i64 q], .bool false]) (by simp [results, Try.results87, go_sem, e0, e1, e2, e3, e4]) rfl ?_
  obtain ⟨f0, f1, f2, f3⟩ := unhide HF
  have hlo : w.heap.size ≤ sx + 1 := by omega
  obtain ⟨s1, -, -, s4, s5⟩ := unhide HS
  refine ⟨[.int .i64 k, .int .i64 i, .slice none 0 0, .int .i64 s, .int .i64 q], rfl, ?_, s1⟩
  refine readsW (x := unpackW [k, i, s, q, x, y, z, c]) ?_ f0 f1 f2 f3
  rw [show (unpackW [k, i, s, q, x, y, z, c]).vec = [] by simp [unpackW, hk]]
  exact s4.mono hlo s5

end Go.Proofs.Ytipomhpimmnchaa

namespace Go.Proofs.Ytipomhpimmnchaa
open Go.RowKit

set_option maxHeartbeats 400000 in
theorem l3Unpack_len (ao : Option Addr) (n cap : Nat) (w : World) (h : n ≠ 8) :
    Calls Try.prog 87 #[.slice ao n cap] w fun e w' => ToldU w w' e zeroW false := by
  have hd : ((n : Int) != 8) = true := by rw [bne_iff_ne]; omega
  have HB : Hid (∀ o, Below w.heap.size w (w.alloc o)) := fun o => (Below.refl _ _).alloc (Nat.le_refl _) o
  go_enter Try.func87, Try.ntmps87
  go_wp2
  refine bodyPost_ret (v := .tuple #[.agg #[.int .i64 0, .int .i64 0, .slice none 0 0, .int .i64 0, .int .i64 0], .bool false]) (by simp [results, Try.results87, go_sem]) rfl ?_
  exact ⟨[.int .i64 0, .int .i64 0, .slice none 0 0, .int .i64 0, .int .i64 0], rfl, readsW (x := zeroW) ⟨[], Lay.lies_ints.2 ⟨none, 0, rfl, ⟨by simp [zeroW], by simp [zeroW]⟩, by simp [zeroW], Or.inl ⟨rfl, rfl⟩⟩, by simp⟩ rfl rfl rfl rfl, unhide HB _⟩

/-- The model's l3Unpack. -/
theorem l3Unpack (v : Value) (zs : List Int) (w : World) (h : (Lay.sl Lay.int).Reads w [v] zs) :
    Calls Try.prog 87 #[v] w fun e w' => ∃ x ok, ToldU w w' e x ok ∧ unpackR zs = if ok then ⟨0, x⟩ else ⟨5, zeroW⟩ := by
  have hi := Lay.ints_reads h
  have hi' := hi
  obtain ⟨ao, cap, rfl, -, hc⟩ := hi'
  by_cases hl : zs.length = 8
  · obtain ⟨k, i, s, q, x, y, z, c, rfl⟩ := eight hl
    obtain ⟨b, off, rfl, -⟩ := hc (by simp)
    have hcap := h.cap.2
    by_cases hk : k = 1
    · subst hk
      have hp : packD (unpackW [1, i, s, q, x, y, z, c]) = packList 1 i [x, y, z] s q := by simp [packD, unpackW]
      by_cases hf : writeFault 1 i [x, y, z] s q = 0
      · refine (l3Unpack_put_ok b off cap i s q x y z c w hi hcap hf).mono fun e w' ht => ⟨_, _, ht, ?_⟩
        rw [unpackR, hp, packList, if_pos hf]
        simp
      · refine (l3Unpack_put_bad b off cap i s q x y z c w hi hcap hf).mono fun e w' ht => ⟨_, _, ht, ?_⟩
        rw [unpackR, hp, packList, if_neg hf]
        simp
    · have hp : packD (unpackW [k, i, s, q, x, y, z, c]) = packList k i [] s q := by simp [packD, unpackW, hk]
      by_cases hf : writeFault k i [] s q = 0
      · refine (l3Unpack_other_ok b off cap k i s q x y z c w hi hk hf).mono fun e w' ht => ⟨_, _, ht, ?_⟩
        rw [unpackR, hp, packList, if_pos hf]
        simp
      · refine (l3Unpack_other_bad b off cap k i s q x y z c w hi hk hf).mono fun e w' ht => ⟨_, _, ht, ?_⟩
        rw [unpackR, hp, packList, if_neg hf]
        simp
  · refine (l3Unpack_len ao _ cap w hl).mono fun e w' ht => ⟨_, _, ht, ?_⟩
    rw [unpackR_len hl]
    simp

/-- The answer stored into the result's own block. -/
theorem storeU {w w1 : World} {x : DWrite} {cs vs : List Value} {lo hi : Nat} {o : Obj} (h : Lay.tWrite.LiesIn w1 cs x lo hi) (hlo : w.heap.size < lo) (hs : w.heap.size < w1.heap.size) (hb : Below w.heap.size w w1) :
    ∃ cs', Ending.returned (.agg (.int .i64 0 :: cs).toArray) = .returned (.agg cs'.toArray) ∧ Lay.tWriteResult.Reads ((setAll w1 w.heap.size 0 vs).alloc o) cs' ⟨0, x⟩ ∧ Below w.heap.size w ((setAll w1 w.heap.size 0 vs).alloc o) := by
  have h2 := h.ext (ext_setAll (fun q => q = w.heap.size) (Ext.refl _ w1) w.heap.size 0 vs rfl) (fun q h1 h2 h3 => by omega)
  have nb : Below (setAll w1 w.heap.size 0 vs).heap.size (setAll w1 w.heap.size 0 vs) ((setAll w1 w.heap.size 0 vs).alloc o) := (Below.refl _ _).alloc (Nat.le_refl _) _
  obtain ⟨bl, hl, -⟩ := h2.later nb
  exact ⟨_, rfl, ⟨bl, [.int .i64 0], cs, [], bl, rfl, rfl, ⟨rfl, rfl, rfl⟩, hl⟩, (below_setAll hb _ _ _ (Nat.le_refl _)).trans (nb.mono (by rw [size_setAll]; omega))⟩


end Go.Proofs.Ytipomhpimmnchaa

namespace Go.Proofs.Ytipomhpimmnchaa
open Go.RowKit

theorem unpackW_words {x : DWrite} (hf : writeFault x.kind x.id x.vec x.session x.seq = 0) : unpackW (wordsOf x.kind x.id x.vec x.session x.seq) = x := by
  obtain ⟨k, i, v, s, q⟩ := x
  obtain ⟨-, -, -, hk⟩ := writeFault_zero hf
  simp only at hk
  rcases hk with ⟨rfl, hv⟩ | ⟨rfl, rfl⟩
  · match v, (vecFault_zero hv).1 with
    | [a, b, c], _ => rfl
  · rfl
/-- Packed, then unpacked. -/
theorem unpack_pack {x : DWrite} (hf : writeFault x.kind x.id x.vec x.session x.seq = 0) : unpackR (packList x.kind x.id x.vec x.session x.seq) = ⟨0, x⟩ := by
  have hp : packList x.kind x.id x.vec x.session x.seq = wordsOf x.kind x.id x.vec x.session x.seq := if_pos hf
  rw [hp, unpackR, if_pos ⟨rfl, by rw [unpackW_words hf]; exact hp⟩, unpackW_words hf]
/-- Unpacked, then packed. -/
theorem pack_unpack {zs : List Int} (h : (unpackR zs).code = 0) : packList (unpackR zs).write.kind (unpackR zs).write.id (unpackR zs).write.vec (unpackR zs).write.session (unpackR zs).write.seq = zs := by
  unfold unpackR at *
  split at h
  · next hq => rw [if_pos hq]; exact hq.2
  · simp at h

end Go.Proofs.Ytipomhpimmnchaa

namespace Go.Proofs.Ytipomhpimmnchaa
open Go.RowKit

def wF (x : DWrite) : Int := writeFault x.kind x.id x.vec x.session x.seq
def applyI (xs : List DItem) (x : DWrite) : List DItem := if x.kind = 2 then dropI xs x.id else if roomB xs x.id then putI xs x.id x.vec else xs
def ofI (ws : List DWrite) : List DItem := ws.foldl applyI []
def wsFrom : List DWrite → Int
  | [] => 0
  | x :: xs => if wF x = 0 then wsFrom xs else wF x
def writesF (ws : List DWrite) : Int := if 200 < ws.length then 2 else wsFrom ws
def applyR (xs : List DItem) (x : DWrite) : DTableResult := if tableFault xs = 0 then (if wF x = 0 then ⟨0, applyI xs x⟩ else ⟨wF x, []⟩) else ⟨tableFault xs, []⟩
def tableOfR (ws : List DWrite) : DTableResult := if writesF ws = 0 then ⟨0, ofI ws⟩ else ⟨writesF ws, []⟩

theorem idB_of {z : Int} (h : 1 ≤ z ∧ z ≤ 999) : idB z = true := by simp only [idB, Bool.and_eq_true, decide_eq_true_eq]; exact h
theorem right_apply {xs : List DItem} (h : Right xs) {x : DWrite} (hx : wF x = 0) : Right (applyI xs x) := by
  obtain ⟨hi, -, -, hk⟩ := writeFault_zero hx
  unfold applyI
  split
  · exact right_drop h _
  · rename_i h2
    split
    · rename_i hr
      rcases hk with ⟨-, hv⟩ | ⟨hk, -⟩
      · exact right_put h (idB_of hi) hv (room_true hr)
      · exact absurd hk h2
    · exact h
theorem ofI_snoc (ws : List DWrite) (k : Nat) (h : k < ws.length) : ofI (ws.take (k + 1)) = applyI (ofI (ws.take k)) ws[k] := by
  rw [ofI, List.take_succ_eq_append_getElem h, List.foldl_append]
  rfl
theorem right_of_writes (ws : List DWrite) (h : ∀ x ∈ ws, wF x = 0) : Right (ofI ws) := by
  have : ∀ (ys : List DWrite) (xs : List DItem), Right xs → (∀ x ∈ ys, wF x = 0) → Right (ys.foldl applyI xs) := by
    intro ys
    induction ys with
    | nil => intro xs hx _; exact hx
    | cons y ys ih =>
      intro xs hx hy
      exact ih _ (right_apply hx (hy y (by simp))) fun x hx => hy x (List.mem_cons_of_mem _ hx)
  exact this ws [] right_nil h
theorem wsFrom_at (ws : List DWrite) (k : Nat) (h : k < ws.length) (hz : ∀ j (hj : j < ws.length), j < k → wF ws[j] = 0) (hn : wF ws[k] ≠ 0) : wsFrom ws = wF ws[k] := by
  induction ws generalizing k with
  | nil => simp at h
  | cons x xs ih =>
    match k with
    | 0 => rw [wsFrom, if_neg (by simpa using hn)]; rfl
    | k + 1 =>
      have h0 : wF x = 0 := hz 0 (by simp) (by omega)
      rw [wsFrom, if_pos h0]
      exact ih k (by simpa using h) (fun j hj hjk => hz (j + 1) (by simpa using hj) (by omega)) (by simpa using hn)
theorem wsFrom_all (ws : List DWrite) (hz : ∀ j (hj : j < ws.length), wF ws[j] = 0) : wsFrom ws = 0 := by
  induction ws with
  | nil => rfl
  | cons x xs ih =>
    have h0 : wF x = 0 := hz 0 (by simp)
    rw [wsFrom, if_pos h0]
    exact ih fun j hj => hz (j + 1) (by simpa using hj)
theorem wsFrom_zero {ws : List DWrite} (h : wsFrom ws = 0) : ∀ x ∈ ws, wF x = 0 := by
  induction ws with
  | nil => simp
  | cons x xs ih =>
    rw [wsFrom] at h
    by_cases h0 : wF x = 0
    · rw [if_pos h0] at h
      intro y hy
      rcases List.mem_cons.1 hy with rfl | hy
      · exact h0
      · exact ih h y hy
    · rw [if_neg h0] at h; exact absurd h h0
theorem writesF_zero {ws : List DWrite} (h : writesF ws = 0) : ws.length ≤ 200 ∧ ∀ x ∈ ws, wF x = 0 := by
  unfold writesF at h
  by_cases hn : 200 < ws.length
  · rw [if_pos hn] at h; cases h
  · rw [if_neg hn] at h; exact ⟨by omega, wsFrom_zero h⟩
theorem wF_vals (x : DWrite) : 0 ≤ wF x ∧ wF x ≤ 3 := by
  have hv := vecFault_vals x.vec
  unfold wF writeFault
  split
  · split
    · split
      · exact hv
      · decide
    · decide
  · decide
theorem wF_wf (x : DWrite) : (Lit.int .i64 (wF x)).wf = true := wf_of_bd (by have := wF_vals x; omega)
theorem wsFrom_vals (ws : List DWrite) : 0 ≤ wsFrom ws ∧ wsFrom ws ≤ 3 := by
  induction ws with
  | nil => decide
  | cons x xs ih =>
    rw [wsFrom]
    split
    · exact ih
    · exact wF_vals x
theorem writesF_wf (ws : List DWrite) : (Lit.int .i64 (writesF ws)).wf = true := by
  have := wsFrom_vals ws
  unfold writesF
  split
  · decide
  · exact wf_of_bd (by omega)

end Go.Proofs.Ytipomhpimmnchaa

namespace Go.Proofs.Ytipomhpimmnchaa
open Go.RowKit

structure DWritesResult where
  code : Int
  writes : List DWrite

def Lay.tWritesResult : Lay DWritesResult := Lay.via (Lay.pair Lay.int (Lay.sl Lay.tWrite)) (fun x => (x.code, x.writes)) (fun p => ⟨p.1, p.2⟩)

theorem lies_WritesResult {w : World} {cs : List Value} {x : DWritesResult} {bl : List Nat} : Lay.tWritesResult.lies w cs x bl ↔ ∃ (a1 : Option Addr) (d1 : Nat) (b1 : List Nat), cs = [.int .i64 x.code, .slice a1 x.writes.length d1] ∧ bl = b1 ∧ (Lit.int .i64 x.code).wf = true ∧ (Lay.sl Lay.tWrite).lies w [.slice a1 x.writes.length d1] x.writes b1 := by
  constructor
  · intro h
    obtain ⟨c0_, r0_, e0_, s0_, rfl, rfl, h0, h1⟩ := h
    obtain ⟨rfl, w0, rfl⟩ := h0
    have k1 := h1
    obtain ⟨a1, d1, rfl, -⟩ := k1
    exact ⟨a1, d1, s0_, by simp, by simp, w0, h1⟩
  · rintro ⟨a1, d1, b1, rfl, hbl, w0, l1⟩
    rw [hbl]
    exact ⟨[.int .i64 x.code], [.slice a1 x.writes.length d1], [], b1, rfl, by simp, ⟨rfl, w0, rfl⟩, l1⟩

theorem open_WritesResult {w : World} {cs : List Value} {x : DWritesResult} (h : Lay.tWritesResult.Reads w cs x) : ∃ (a1 : Option Addr) (d1 : Nat), cs = [.int .i64 x.code, .slice a1 x.writes.length d1] ∧ (Lay.sl Lay.tWrite).Reads w [.slice a1 x.writes.length d1] x.writes := by
  obtain ⟨bl, h⟩ := h
  obtain ⟨a1, d1, b1, rfl, -, w0, l1⟩ := lies_WritesResult.1 h
  exact ⟨a1, d1, rfl, ⟨_, l1⟩⟩

end Go.Proofs.Ytipomhpimmnchaa
