/-
  Texts of this proof in one: SpecUnpackOtherBad, SpecUnpack, SpecRead8, SpecReadLog, ImplSame.
  Their conditions stand in their theorems.
-/
import Derived.Test.YtipomhpimmnchaaLq11
import Derived.Test.YtipomhpimmnchaaChecked
import Derived.Test.YtipomhpimmnchaaLq05
import Derived.Test.YtipomhpimmnchaaLq06
import Derived.Deep.CutRange
import Derived.Test.YtipomhpimmnchaaLq08
import Derived.Test.YtipomhpimmnchaaLq10

namespace Go.Proofs.Ytipomhpimmnchaa
open Go.RowKit

set_option maxRecDepth 100000 in
set_option maxHeartbeats 4000000 in
theorem l3Unpack_other_bad (b off cap : Nat) (k i s q x y z c : Int) (w : World) (h : IsInts w (.slice (some ⟨b, off, none⟩) 8 cap) [k, i, s, q, x, y, z, c]) (hk : k ≠ 1) (hf : writeFault k i [] s q ≠ 0) :
    Calls Try.prog 87 #[.slice (some ⟨b, off, none⟩) 8 cap] w fun e w' => ToldU w w' e (unpackW [k, i, s, q, x, y, z, c]) false := by
  have hc : ∀ j, j < 8 → w.cell? ⟨b, off + j, none⟩ = some (.int .i64 ([k, i, s, q, x, y, z, c].getD j 0)) := by
    obtain ⟨ao, cp, e, -, hc⟩ := h
    obtain ⟨b', off', rfl, hc1⟩ := hc (by simp)
    simp only [Value.slice.injEq, Option.some.injEq, Addr.mk.injEq, and_true] at e
    obtain ⟨⟨rfl, rfl⟩, -, -⟩ := e
    exact hc1
  have c0 : w.cell? ⟨b, off, none⟩ = some (.int .i64 k) := hc 0 (by omega)
  have c1 : w.cell? ⟨b, off + 1, none⟩ = some (.int .i64 i) := hc 1 (by omega)
  have c2 : w.cell? ⟨b, off + 2, none⟩ = some (.int .i64 s) := hc 2 (by omega)
  have c3 : w.cell? ⟨b, off + 3, none⟩ = some (.int .i64 q) := hc 3 (by omega)
  have hwf := h.wf
  have f0 : (Lit.int .i64 k).wf = true := hwf k (by simp)
  have f1 : (Lit.int .i64 i).wf = true := hwf i (by simp)
  have f2 : (Lit.int .i64 s).wf = true := hwf s (by simp)
  have f3 : (Lit.int .i64 q).wf = true := hwf q (by simp)
  have HF := hide (And.intro f0 (And.intro f1 (And.intro f2 f3)))
  have H := hide h
  have HFL := hide hf
  clear h hc hwf f0 f1 f2 f3 hf
  have nb : Below w.heap.size w (w.alloc (.cells #[.int .i64 0, .int .i64 0, .slice none 0 0, .int .i64 0, .int .i64 0] 58)) := (Below.refl _ _).alloc (Nat.le_refl _) _
  have bR : Box 0 #[.int .i64 0, .int .i64 0, .slice none 0 0, .int .i64 0, .int .i64 0] 58 (w.alloc (.cells #[.int .i64 0, .int .i64 0, .slice none 0 0, .int .i64 0, .int .i64 0] 58)) w.heap.size := newBox (Nat.zero_le _)
  have d0 := cell_keep nb c0
  have d1 := cell_keep nb c1
  have d2 := cell_keep nb c2
  have d3 := cell_keep nb c3
  clear c0 c1 c2 c3
  go_enter Try.func87, Try.ntmps87
  go_wp2_with fail
  generalize w.alloc (.cells #[.int .i64 0, .int .i64 0, .slice none 0 0, .int .i64 0, .int .i64 0] 58) = W0 at *
  first
    | go_region_held3 (fun w' => w'.cell? ⟨b, off, none⟩ = some (.int .i64 k) ∧ w'.cell? ⟨b, off + 1, none⟩ = some (.int .i64 i) ∧ w'.cell? ⟨b, off + 2, none⟩ = some (.int .i64 s) ∧ w'.cell? ⟨b, off + 3, none⟩ = some (.int .i64 q))
        (first
          | exact ⟨d0, d1, d2, d3⟩
          | (refine ⟨(World.grownBy_alloc _ _ none).cell ?_ (by simp), (World.grownBy_alloc _ _ none).cell ?_ (by simp), (World.grownBy_alloc _ _ none).cell ?_ (by simp), (World.grownBy_alloc _ _ none).cell ?_ (by simp)⟩ <;> assumption)
          | go_keep)
        (fail)
    | fail
  clear d0 d1 d2 d3
  have nb1 : Below W0.heap.size W0 (W0.alloc (.cells #[.int .i64 k, .int .i64 i, .slice none 0 0, .int .i64 s, .int .i64 q] 58)).drew := ((Below.refl _ _).alloc (Nat.le_refl _) _).drew
  have bX : Box 0 #[.int .i64 k, .int .i64 i, .slice none 0 0, .int .i64 s, .int .i64 q] 58 (W0.alloc (.cells #[.int .i64 k, .int .i64 i, .slice none 0 0, .int .i64 s, .int .i64 q] 58)).drew W0.heap.size := (newBox (Nat.zero_le _)).drew
  generalize (W0.alloc (.cells #[.int .i64 k, .int .i64 i, .slice none 0 0, .int .i64 s, .int .i64 q] 58)).drew = W1 at *
  have hX := bX.lt
  have hR := bR.lt
  replace bR := bR.keep nb1
  have HB1 := hide (nb.trans (nb1.mono nb.size))
  skip
  clear nb nb1
  generalize hs0 : W0.heap.size = sx at *
  clear hs0
  have x0 := bX.at 0 _ rfl
  have x1 := bX.at 1 _ rfl
  have x2 := bX.at 2 _ rfl
  have x3 := bX.at 3 _ rfl
  have x4 := bX.at 4 _ rfl
  have HR := hide bR
  have HX := hide bX
  clear bR bX
  go_wp2_with fail
  have bX := unhide HX
  have bR := unhide HR
  clear HX HR x0 x1 x2 x3 x4
  obtain ⟨W2, hW2⟩ : ∃ W2, W2 = W1 := ⟨_, rfl⟩
  subst hW2
  have HVI : Hid ((Lay.sl Lay.int).LiesIn W2 [.slice none 0 0] [] (sx + 1) W2.heap.size) := ⟨[], Lay.lies_ints.2 ⟨none, 0, rfl, ⟨by simp, by simp⟩, by simp, Or.inl ⟨rfl, rfl⟩⟩, by simp⟩
  have hne : (writeFault k i [] s q == 0) = false := by simpa using unhide HFL
  refine wp_region_noPanic ?_
  refine wp_region_held_drew (S := fun w' => Below w.heap.size w w' ∧ Box 0 #[.int .i64 k, .int .i64 i, .slice none 0 0, .int .i64 s, .int .i64 q] 58 w' sx ∧ (∃ cs : Array Value, cs.size = 5 ∧ Box 0 cs 58 w' w.heap.size) ∧ (Lay.sl Lay.int).LiesIn w' [.slice none 0 0] [] (sx + 1) W2.heap.size ∧ W2.heap.size ≤ w'.heap.size) (by kernel_rfl) ⟨(unhide HB1).drew, bX.drew, ⟨_, rfl, bR.drew⟩, unhide HVI, Nat.le_refl _⟩ (fun hHeld => ?_)
  generalize W2.drew = wD at hHeld ⊢
  refine wpAnyH_take (i := 0) (oi := { dst := some 29, op := Go.Op.load 58 (Go.Operand.tmp 4), type := 58, pos := "l03_write.go:52", after := #[], guard := none }) (v := ?v0) rfl (by kernel_rfl) (by kernel_rfl) (by kernel_rfl) (fun _ _ _ h => h) (Or.inl ⟨by rfl, ?h0⟩) hHeld ?r0
  case h0 =>
    intro wS hSw
    have y0 := hSw.2.1.at 0 _ rfl
    have y1 := hSw.2.1.at 1 _ rfl
    have y2 := hSw.2.1.at 2 _ rfl
    have y3 := hSw.2.1.at 3 _ rfl
    have y4 := hSw.2.1.at 4 _ rfl
    simp only [List.getElem_toArray, List.getElem_cons_zero, List.getElem_cons_succ] at y0 y1 y2 y3 y4
    clear hSw
    (try dsimp only at hSw)
    go_simp
    try with_reducible rfl
  case r0 =>
  simp only [Act.put, List.setIfInBounds_toArray, List.set_cons_zero, List.set_cons_succ]
  refine wpAnyH_ready (rs := [1]) (by kernel_rfl) (by simp) ?_
  refine AllReadyH.cons (o := { dst := some 30, op := Go.Op.call { callee := Go.Callee.value (Go.Operand.func 53), args := #[Go.Operand.tmp 4], argTypes := #[77] }, type := 2, pos := "l03_write.go:52", after := #[], guard := none }) rfl (fun K hK => ?_) AllReadyH.nil
  go_simp
  go_at_call 53
  refine (l3Fault sx k i _ s q [] _ ⟨hHeld.2.1.at 0 _ rfl, hHeld.2.1.at 1 _ rfl, hHeld.2.1.at 2 _ rfl, hHeld.2.1.at 3 _ rfl, hHeld.2.1.at 4 _ rfl⟩ (Lay.ints_reads hHeld.2.2.2.1.reads)).mono ?_
  rintro e wE ⟨rfl, hwe⟩
  subst hwe
  skip
  try go_wp2_with fail
  refine hK.out _ _ hHeld (fun hHeld => ?_)
  clear hK K
  try simp only [Act.put, List.setIfInBounds_toArray, List.set_cons_zero, List.set_cons_succ]
  refine wpAnyH_take (i := 2) (oi := { dst := some 31, op := Go.Op.binOp Go.BinOp.eql 2 (Go.Operand.tmp 30) (Go.Operand.const (Go.Value.int Go.IntKind.i64 0)) 2, type := 4, pos := "l03_write.go:52", after := #[{ on := 1, ground := Go.Ground.data }], guard := none }) (v := ?v2) rfl (by kernel_rfl) (by kernel_rfl) (by kernel_rfl) (fun _ _ _ h => h) (Or.inl ⟨by rfl, ?h2⟩) hHeld ?r2
  case h2 =>
    intro wS hSw
    (try dsimp only at hSw)
    go_simp
    try with_reducible rfl
  case r2 =>
  simp only [Act.put, List.setIfInBounds_toArray, List.set_cons_zero, List.set_cons_succ]
  refine wpAnyH_take (i := 3) (oi := { dst := some 32, op := Go.Op.move (Go.Operand.tmp 31), type := 4, pos := "l03_write.go:52", after := #[{ on := 2, ground := Go.Ground.data }, { on := 1, ground := Go.Ground.chain }], guard := none }) (v := ?v3) rfl (by kernel_rfl) (by kernel_rfl) (by kernel_rfl) (fun _ _ _ h => h) (Or.inl ⟨by rfl, ?h3⟩) hHeld ?r3
  case h3 =>
    intro wS hSw
    (try dsimp only at hSw)
    go_simp
    try with_reducible rfl
  case r3 =>
  simp only [Act.put, List.setIfInBounds_toArray, List.set_cons_zero, List.set_cons_succ]
  refine wpAnyH_take (i := 4) (oi := { dst := some 33, op := Go.Op.call { callee := Go.Callee.value (Go.Operand.func 66), args := #[Go.Operand.tmp 4], argTypes := #[77] }, type := 24, pos := "l03_write.go:52", after := #[{ on := 3, ground := Go.Ground.chain }, { on := 3, ground := Go.Ground.guard }], guard := some (3, true) }) (v := undef) rfl (by kernel_rfl) (by kernel_rfl) (by kernel_rfl) (fun _ _ _ h => h) (Or.inr ⟨by rfl, rfl⟩) hHeld ?_
  simp only [Act.put, List.setIfInBounds_toArray, List.set_cons_zero, List.set_cons_succ]
  refine wpAnyH_take (i := 5) (oi := { dst := some 34, op := Go.Op.move (Go.Operand.tmp 0), type := 24, pos := "l03_write.go:52", after := #[{ on := 3, ground := Go.Ground.guard }], guard := some (3, true) }) (v := undef) rfl (by kernel_rfl) (by kernel_rfl) (by kernel_rfl) (fun _ _ _ h => h) (Or.inr ⟨by rfl, rfl⟩) hHeld ?_
  simp only [Act.put, List.setIfInBounds_toArray, List.set_cons_zero, List.set_cons_succ]
  refine wpAnyH_take (i := 6) (oi := { dst := some 35, op := Go.Op.call { callee := Go.Callee.value (Go.Operand.func 100), args := #[Go.Operand.tmp 33, Go.Operand.tmp 34], argTypes := #[24, 24] }, type := 4, pos := "l03_write.go:52", after := #[{ on := 4, ground := Go.Ground.data }, { on := 5, ground := Go.Ground.data }, { on := 4, ground := Go.Ground.chain }, { on := 3, ground := Go.Ground.guard }], guard := some (3, true) }) (v := undef) rfl (by kernel_rfl) (by kernel_rfl) (by kernel_rfl) (fun _ _ _ h => h) (Or.inr ⟨by rfl, rfl⟩) hHeld ?_
  simp only [Act.put, List.setIfInBounds_toArray, List.set_cons_zero, List.set_cons_succ]
  refine wpAnyH_take (i := 7) (oi := { dst := some 36, op := Go.Op.pick (Go.Operand.tmp 32) (Go.Operand.tmp 35) (Go.Operand.const (Go.Value.bool false)), type := 4, pos := "l03_write.go:52", after := #[{ on := 3, ground := Go.Ground.data }, { on := 6, ground := Go.Ground.data }, { on := 8, ground := Go.Ground.gcOnly Go.Departure.lateStores }], guard := none }) (v := ?v7) rfl (by kernel_rfl) (by kernel_rfl) (by kernel_rfl) (fun _ _ _ h => h) (Or.inl ⟨by rfl, ?h7⟩) hHeld ?r7
  case h7 =>
    intro wS hSw
    (try dsimp only at hSw)
    go_simp
    try with_reducible rfl
  case r7 =>
  simp only [Act.put, List.setIfInBounds_toArray, List.set_cons_zero, List.set_cons_succ]
  refine wpAnyH_ready (rs := [8]) (by kernel_rfl) (by simp) ?_
  refine AllReadyH.cons (o := { dst := none, op := Go.Op.store 58 (Go.Operand.tmp 2) (Go.Operand.tmp 29), type := 0, pos := "l03_write.go:52", after := #[{ on := 0, ground := Go.Ground.data }, { on := 6, ground := Go.Ground.chain }, { on := 0, ground := Go.Ground.phase }, { on := 1, ground := Go.Ground.textOnly Go.Departure.lateStoresUnsure }, { on := 2, ground := Go.Ground.textOnly Go.Departure.lateStores }, { on := 3, ground := Go.Ground.textOnly Go.Departure.lateStores }, { on := 4, ground := Go.Ground.textOnly Go.Departure.lateStoresUnsure }, { on := 5, ground := Go.Ground.textOnly Go.Departure.lateStores }, { on := 6, ground := Go.Ground.textOnly Go.Departure.lateStoresUnsure }, { on := 7, ground := Go.Ground.textOnly Go.Departure.lateStores }], guard := none }) rfl (fun K hK => ?_) AllReadyH.nil
  obtain ⟨hb9, bX9, ⟨cs9, hs9, bR9⟩, hv9, hz9⟩ := hHeld
  obtain ⟨q0, q1, q2, q3, q4, rfl⟩ : ∃ q0 q1 q2 q3 q4 : Value, cs9 = #[q0, q1, q2, q3, q4] := by
    obtain ⟨l⟩ := cs9
    match l, hs9 with
    | [q0, q1, q2, q3, q4], _ => exact ⟨q0, q1, q2, q3, q4, rfl⟩
  have e0 : wE.cell? ⟨w.heap.size, 0, none⟩ = some q0 := bR9.at 0 _ rfl
  have e1 : wE.cell? ⟨w.heap.size, 1, none⟩ = some q1 := bR9.at 1 _ rfl
  have e2 : wE.cell? ⟨w.heap.size, 2, none⟩ = some q2 := bR9.at 2 _ rfl
  have e3 : wE.cell? ⟨w.heap.size, 3, none⟩ = some q3 := bR9.at 3 _ rfl
  have e4 : wE.cell? ⟨w.heap.size, 4, none⟩ = some q4 := bR9.at 4 _ rfl
  have ef : ∀ o, wE.frozen? ⟨w.heap.size, o, none⟩ = false := bR9.soft
  have el : w.heap.size < wE.heap.size := bR9.lt
  go_simp
  try go_wp2_with fail
  refine hK.out _ _ (storeS (vs := [.int .i64 k, .int .i64 i, .slice none 0 0, .int .i64 s, .int .i64 q]) hb9 bX9 bR9 hv9 hz9 (by omega) rfl) (fun hHeld => ?_)
  clear hK K
  try simp only [Act.put, List.setIfInBounds_toArray, List.set_cons_zero, List.set_cons_succ]
  refine wpAnyH_take (i := 9) (oi := { dst := some 3, op := Go.Op.assign (Go.Operand.tmp 36), type := 4, pos := "l03_write.go:52", after := #[{ on := 7, ground := Go.Ground.data }, { on := 8, ground := Go.Ground.chain }, { on := 0, ground := Go.Ground.phase }, { on := 1, ground := Go.Ground.phase }, { on := 2, ground := Go.Ground.phase }, { on := 3, ground := Go.Ground.phase }, { on := 4, ground := Go.Ground.phase }, { on := 5, ground := Go.Ground.phase }, { on := 6, ground := Go.Ground.phase }, { on := 7, ground := Go.Ground.phase }, { on := 8, ground := Go.Ground.phase }], guard := none }) (v := ?v9) rfl (by kernel_rfl) (by kernel_rfl) (by kernel_rfl) (fun _ _ _ h => h) (Or.inl ⟨by rfl, ?h9⟩) hHeld ?r9
  case h9 =>
    intro wS hSw
    (try dsimp only at hSw)
    go_simp
    try with_reducible rfl
  case r9 =>
  simp only [Act.put, List.setIfInBounds_toArray, List.set_cons_zero, List.set_cons_succ]
  refine wpAnyH_done (by kernel_rfl) ?_ _
  refine NoPanic.normal ?_
  have HS := hide hHeld
  clear hHeld
  go_wp2_with fail
  refine bodyPost_ret (v := .tuple #[.agg #[.int .i64 k, .int .i64 i, .slice none 0 0, .int .i64 s, .int .i64 q], .bool false]) (by simp [results, Try.results87, go_sem, e0, e1, e2, e3, e4]) rfl ?_
  obtain ⟨f0, f1, f2, f3⟩ := unhide HF
  have hlo : w.heap.size ≤ sx + 1 := by omega
  obtain ⟨s1, -, -, s4, s5⟩ := unhide HS
  refine ⟨[.int .i64 k, .int .i64 i, .slice none 0 0, .int .i64 s, .int .i64 q], rfl, ?_, s1⟩
  refine readsW (x := unpackW [k, i, s, q, x, y, z, c]) ?_ f0 f1 f2 f3
  rw [show (unpackW [k, i, s, q, x, y, z, c]).vec = [] by simp [unpackW, hk]]
  exact s4.mono hlo s5

end Go.Proofs.Ytipomhpimmnchaa

namespace Go.Proofs.Ytipomhpimmnchaa
open Go.RowKit

set_option maxHeartbeats 400000 in
theorem l3Unpack_len (ao : Option Addr) (n cap : Nat) (w : World) (h : n ≠ 8) :
    Calls Try.prog 87 #[.slice ao n cap] w fun e w' => ToldU w w' e zeroW false := by
  have hd : ((n : Int) != 8) = true := by rw [bne_iff_ne]; omega
  have HB : Hid (∀ o, Below w.heap.size w (w.alloc o)) := fun o => (Below.refl _ _).alloc (Nat.le_refl _) o
  go_enter Try.func87, Try.ntmps87
  go_wp2
  refine bodyPost_ret (v := .tuple #[.agg #[.int .i64 0, .int .i64 0, .slice none 0 0, .int .i64 0, .int .i64 0], .bool false]) (by simp [results, Try.results87, go_sem]) rfl ?_
  exact ⟨[.int .i64 0, .int .i64 0, .slice none 0 0, .int .i64 0, .int .i64 0], rfl, readsW (x := zeroW) ⟨[], Lay.lies_ints.2 ⟨none, 0, rfl, ⟨by simp [zeroW], by simp [zeroW]⟩, by simp [zeroW], Or.inl ⟨rfl, rfl⟩⟩, by simp⟩ rfl rfl rfl rfl, unhide HB _⟩

/-- The model's l3Unpack. -/
theorem l3Unpack (v : Value) (zs : List Int) (w : World) (h : (Lay.sl Lay.int).Reads w [v] zs) :
    Calls Try.prog 87 #[v] w fun e w' => ∃ x ok, ToldU w w' e x ok ∧ unpackR zs = if ok then ⟨0, x⟩ else ⟨5, zeroW⟩ := by
  have hi := Lay.ints_reads h
  have hi' := hi
  obtain ⟨ao, cap, rfl, -, hc⟩ := hi'
  by_cases hl : zs.length = 8
  · obtain ⟨k, i, s, q, x, y, z, c, rfl⟩ := eight hl
    obtain ⟨b, off, rfl, -⟩ := hc (by simp)
    have hcap := h.cap.2
    by_cases hk : k = 1
    · subst hk
      have hp : packD (unpackW [1, i, s, q, x, y, z, c]) = packList 1 i [x, y, z] s q := by simp [packD, unpackW]
      by_cases hf : writeFault 1 i [x, y, z] s q = 0
      · refine (l3Unpack_put_ok b off cap i s q x y z c w hi hcap hf).mono fun e w' ht => ⟨_, _, ht, ?_⟩
        rw [unpackR, hp, packList, if_pos hf]
        simp
      · refine (l3Unpack_put_bad b off cap i s q x y z c w hi hcap hf).mono fun e w' ht => ⟨_, _, ht, ?_⟩
        rw [unpackR, hp, packList, if_neg hf]
        simp
    · have hp : packD (unpackW [k, i, s, q, x, y, z, c]) = packList k i [] s q := by simp [packD, unpackW, hk]
      by_cases hf : writeFault k i [] s q = 0
      · refine (l3Unpack_other_ok b off cap k i s q x y z c w hi hk hf).mono fun e w' ht => ⟨_, _, ht, ?_⟩
        rw [unpackR, hp, packList, if_pos hf]
        simp
      · refine (l3Unpack_other_bad b off cap k i s q x y z c w hi hk hf).mono fun e w' ht => ⟨_, _, ht, ?_⟩
        rw [unpackR, hp, packList, if_neg hf]
        simp
  · refine (l3Unpack_len ao _ cap w hl).mono fun e w' ht => ⟨_, _, ht, ?_⟩
    rw [unpackR_len hl]
    simp

/-- The answer stored into the result's own block. -/
theorem storeU {w w1 : World} {x : DWrite} {cs vs : List Value} {lo hi : Nat} {o : Obj} (h : Lay.tWrite.LiesIn w1 cs x lo hi) (hlo : w.heap.size < lo) (hs : w.heap.size < w1.heap.size) (hb : Below w.heap.size w w1) :
    ∃ cs', Ending.returned (.agg (.int .i64 0 :: cs).toArray) = .returned (.agg cs'.toArray) ∧ Lay.tWriteResult.Reads ((setAll w1 w.heap.size 0 vs).alloc o) cs' ⟨0, x⟩ ∧ Below w.heap.size w ((setAll w1 w.heap.size 0 vs).alloc o) := by
  have h2 := h.ext (ext_setAll (fun q => q = w.heap.size) (Ext.refl _ w1) w.heap.size 0 vs rfl) (fun q h1 h2 h3 => by omega)
  have nb : Below (setAll w1 w.heap.size 0 vs).heap.size (setAll w1 w.heap.size 0 vs) ((setAll w1 w.heap.size 0 vs).alloc o) := (Below.refl _ _).alloc (Nat.le_refl _) _
  obtain ⟨bl, hl, -⟩ := h2.later nb
  exact ⟨_, rfl, ⟨bl, [.int .i64 0], cs, [], bl, rfl, rfl, ⟨rfl, rfl, rfl⟩, hl⟩, (below_setAll hb _ _ _ (Nat.le_refl _)).trans (nb.mono (by rw [size_setAll]; omega))⟩


end Go.Proofs.Ytipomhpimmnchaa

namespace Go.Proofs.Ytipomhpimmnchaa
open Go.RowKit

/-- What l8Read tells. -/
def Told8 (w w' : World) (e : Ending) (zs : List Int) : Prop := ∃ v, e = .returned (.tuple #[v, .int .i64 ((8 * cnt zs : Nat) : Int)]) ∧ (Lay.sl Lay.tWrite).LiesIn w' [v] (readL zs) w.heap.size w'.heap.size ∧ Below w.heap.size w w'

set_option maxRecDepth 100000 in
set_option maxHeartbeats 4000000 in
theorem read8_pos (b off cap : Nat) (zs : List Int) (w : World) (h : (Lay.sl Lay.int).Reads w [.slice (some ⟨b, off, none⟩) zs.length cap] zs) (hbl : b < w.heap.size) (hn : zs.length ≤ 10000000) :
    Calls Try.prog 57 #[.slice (some ⟨b, off, none⟩) zs.length cap] w fun e w' => Told8 w w' e zs := by
  have hcap := h.cap.2
  have H := hide h
  clear h
  have HG0 : Hid (Grow Lay.tWrite (w.alloc (.cells #[] 58)) w.heap.size 58 (.slice (some ⟨w.heap.size, 0, none⟩) 0 0) [] [] []) := Grow.nil (World.ownsRow_lit w #[] 0 (Nat.le_refl _) (Nat.zero_le _) rfl)
  have HB0 := hide ((Below.refl w.heap.size w).alloc (Nat.le_refl _) (.cells #[] 58))
  go_enter Try.func57, Try.ntmps57
  go_wp2_with fail
  go_loopw [4, 5] (fun v i wr => ∃ (k : Nat) (rows : List (List Value)) (bls : List (List Nat)), (∀ j, j < k → okAt zs j = true) ∧ 8 * k ≤ zs.length ∧ i = .int .i64 ((8 * k : Nat) : Int) ∧ Grow Lay.tWrite wr w.heap.size 58 v rows ((List.range k).map (wAt zs)) bls ∧ (∀ c ∈ bls.flatten, w.heap.size ≤ c) ∧ Below w.heap.size w wr) (fun _ i _ => zs.length - (intOf i).toNat)
  case atStart => exact ⟨0, [], [], fun _ h => by omega, Nat.zero_le _, rfl, unhide HG0, by simp, unhide HB0⟩
  case round =>
    obtain ⟨k, rows, bls, hok, hk, rfl, hG, hSB, hB⟩ := hrel
    have HSB := hide hSB
    have HOK := hide hok
    clear HG0 HB0 hSB hok
    by_cases hlt : 8 * k + 8 ≤ zs.length
    · have HL := hide (l3Unpack _ (pieceAt zs k) wr (piece_reads ((unhide H).later hB) k (cap - 8 * k) hlt (by omega)))
      have hbr : b < wr.heap.size := Nat.lt_of_lt_of_le hbl hB.size
      have HLn : Hid (((List.range k).map (wAt zs)).length = k) := by show ((List.range k).map (wAt zs)).length = k; simp
      have HG := hide hG
      have HB := hide hB
      clear hG hB
      go_wp2_with fail
      refine (unhide HL).mono ?_
      rintro e w2 ⟨x, ok, ⟨cs, rfl, R, hb⟩, hu⟩
      obtain ⟨a2, d2, rfl, -⟩ := open_Write R.reads
      have hl : ∃ bl, Lay.tWrite.lies w2 [.int .i64 x.kind, .int .i64 x.id, .slice a2 x.vec.length d2, .int .i64 x.session, .int .i64 x.seq] x bl ∧ ∀ c ∈ bl, wr.heap.size ≤ c ∧ c < w2.heap.size := R
      obtain ⟨bl2, hl2, hr2⟩ := hl
      have hG2 := (unhide HG).later hb
      have HB2 := hide ((unhide HB).trans (hb.mono (unhide HB).size))
      have HZW : Hid (w.heap.size ≤ wr.heap.size) := (unhide HB).size
      have HOW : Hid (∀ c, u4.ownBlock = some c → c < wr.heap.size) := fun c hc => ((unhide HG).own.lt c hc).2
      have hZ2 := hb.size
      have nb : Below w2.heap.size w2 (w2.alloc (.cells #[.int .i64 x.kind, .int .i64 x.id, .slice a2 x.vec.length d2, .int .i64 x.session, .int .i64 x.seq] 58)) := (Below.refl _ _).alloc (Nat.le_refl _) _
      have bI : Box 0 #[.int .i64 x.kind, .int .i64 x.id, .slice a2 x.vec.length d2, .int .i64 x.session, .int .i64 x.seq] 58 (w2.alloc (.cells #[.int .i64 x.kind, .int .i64 x.id, .slice a2 x.vec.length d2, .int .i64 x.session, .int .i64 x.seq] 58)) w2.heap.size := newBox (Nat.zero_le _)
      have hl3 := Lay.tWrite.keep hl2 (w' := w2.alloc (.cells #[.int .i64 x.kind, .int .i64 x.id, .slice a2 x.vec.length d2, .int .i64 x.session, .int .i64 x.seq] 58)) (fun c hc => nb.block c (hr2 c hc).2)
      have hG3 := hG2.later nb
      have hoff : ∀ c ∈ bl2, u4.ownBlock ≠ some c := fun c hc e => by have h1 := (hr2 c hc).1; have h2 := unhide HOW c e; omega
      have HB3 := hide ((unhide HB2).trans (nb.mono (unhide HB2).size))
      have hZ3 : w.heap.size ≤ (w2.alloc (.cells #[.int .i64 x.kind, .int .i64 x.id, .slice a2 x.vec.length d2, .int .i64 x.session, .int .i64 x.seq] 58)).heap.size := (unhide HB3).size
      have hK : ((List.range k).map (wAt zs)).length + 1 ≤ 100000000 := by rw [unhide HLn]; omega
      have HSB5 : Hid (∀ c ∈ (bls ++ [bl2]).flatten, w.heap.size ≤ c) := by
        intro c hc
        rw [List.flatten_append] at hc
        rcases List.mem_append.1 hc with hc | hc
        · exact unhide HSB c hc
        · have h1 := (hr2 c (by simpa using hc)).1
          have h2 := unhide HZW
          omega
      have HU := hide hu
      have HG2 := hide hG2
      clear R hl2 hb HG HL HB hr2 hu hG2 nb
      cases ok with
      | true =>
        have HX : Hid (okAt zs k = true ∧ wAt zs k = x) := by
          have e := unhide HU
          rw [if_pos rfl] at e
          exact ⟨by rw [okAt, e]; rfl, by rw [wAt, e]⟩
        have HLI := hide hl3
        have HGI := hide hG3
        have HBI := hide bI
        have HOF := hide hoff
        clear hl3 hG3 bI hoff HU HG2
        go_upto_region 6 with fail
        generalize hW3 : w2.alloc (.cells #[.int .i64 x.kind, .int .i64 x.id, .slice a2 x.vec.length d2, .int .i64 x.session, .int .i64 x.seq] 58) = W3 at *
        clear hW3
        have hl3 := unhide HLI
        have hG3 := unhide HGI
        have hoff := unhide HOF
        have z0 : W3.cell? ⟨w2.heap.size, 0, none⟩ = some (.int .i64 x.kind) := (unhide HBI).at 0 _ rfl
        have z1 : W3.cell? ⟨w2.heap.size, 1, none⟩ = some (.int .i64 x.id) := (unhide HBI).at 1 _ rfl
        have z2 : W3.cell? ⟨w2.heap.size, 2, none⟩ = some (.slice a2 x.vec.length d2) := (unhide HBI).at 2 _ rfl
        have z3 : W3.cell? ⟨w2.heap.size, 3, none⟩ = some (.int .i64 x.session) := (unhide HBI).at 3 _ rfl
        have z4 : W3.cell? ⟨w2.heap.size, 4, none⟩ = some (.int .i64 x.seq) := (unhide HBI).at 4 _ rfl
        clear HLI HGI HBI HOF
        go_wp2_with (at_builtin; refine wpList_append_Write hG3 hl3 hoff rfl _ _ rfl rfl rfl hK hZ3 ?_)
        intro g5 cap5 w5 hG5 hb5 hE5 hg5 hz5 hor5
        have HG5 := hide hG5
        have HB5 := hide ((unhide HB3).trans hb5)
        clear hG3 hl3 hoff hZ3 hK hG5 hb5 hE5 hg5 hz5 hor5 HB3 z0 z1 z2 z3 z4
        go_wp2_with fail
        go_roundw
        case rel =>
          have hg := unhide HG5
          rw [← (unhide HX).2, ← reads_snoc] at hg
          try rw [unhide HLn] at hg
          refine ⟨k + 1, _, _, fun j hj => ?_, by omega, by go_num, hg, unhide HSB5, unhide HB5⟩
          by_cases h2 : j = k
          · rw [h2]; exact (unhide HX).1
          · exact unhide HOK j (by omega)
        case measure => simp [intOf]; omega
      | false =>
        have HX : Hid (okAt zs k = false) := by
          have e := unhide HU
          rw [if_neg (by simp)] at e
          show okAt zs k = false
          rw [okAt, e]
          rfl
        have HGI := hide hG3
        clear hl3 hG3 bI hoff HU HG2 HSB5
        go_wp2_with fail
        refine bodyPost_ret (v := .tuple #[u4, .int .i64 ((8 * k : Nat) : Int)]) (by simp [results, Try.results57, go_sem]) rfl ?_
        refine ⟨_, by rw [cnt_of (unhide HOK) (unhide HX)], ?_, unhide HB3⟩
        rw [read_of (unhide HOK) (unhide HX)]
        exact (unhide HGI).toLies (by rw [unhide HLn]; omega) (unhide HSB)
    · have HX : Hid (okAt zs k = false) := ok_short (by omega)
      have HLn : Hid (((List.range k).map (wAt zs)).length = k) := by show ((List.range k).map (wAt zs)).length = k; simp
      have HG := hide hG
      have HB := hide hB
      clear hG hB H
      go_wp2_with fail
      refine bodyPost_ret (v := .tuple #[u4, .int .i64 ((8 * k : Nat) : Int)]) (by simp [results, Try.results57, go_sem]) rfl ?_
      refine ⟨_, by rw [cnt_of (unhide HOK) (unhide HX)], ?_, unhide HB⟩
      rw [read_of (unhide HOK) (unhide HX)]
      exact (unhide HG).toLies (by rw [unhide HLn]; omega) (unhide HSB)

set_option maxRecDepth 100000 in
set_option maxHeartbeats 1000000 in
/-- l8Read of the model. -/
theorem read8C (v : Value) (zs : List Int) (w : World) (h : (Lay.sl Lay.int).Reads w [v] zs) (hn : zs.length ≤ 10000000) :
    Calls Try.prog 57 #[v] w fun e w' => Told8 w w' e zs := by
  obtain ⟨ao, cap, rfl⟩ := open_sl h
  by_cases hp : 0 < zs.length
  · obtain ⟨b, off, rfl, hbl⟩ := Lay.sl_addr h hp
    exact read8_pos b off cap zs w h hbl hn
  · obtain rfl : zs = [] := List.eq_nil_of_length_eq_zero (by omega)
    clear h hp hn
    have HB := hide ((Below.refl w.heap.size w).alloc (Nat.le_refl _) (.cells #[] 58))
    have HG0 : Hid (Grow Lay.tWrite (w.alloc (.cells #[] 58)) w.heap.size 58 (.slice (some ⟨w.heap.size, 0, none⟩) 0 0) [] [] []) := Grow.nil (World.ownsRow_lit w #[] 0 (Nat.le_refl _) (Nat.zero_le _) rfl)
    go_enter Try.func57, Try.ntmps57
    go_wp2_with fail
    refine wp_loop_rounds 1 ?_
    rw [rounds_succ]
    go_wp2_with fail
    refine bodyPost_ret (v := .tuple #[.slice (some ⟨w.heap.size, 0, none⟩) 0 0, .int .i64 0]) (by simp [results, Try.results57, go_sem]) rfl ?_
    exact ⟨_, rfl, (unhide HG0).toLies (by simp) (by simp), unhide HB⟩

end Go.Proofs.Ytipomhpimmnchaa

namespace Go.Proofs.Ytipomhpimmnchaa
open Go.RowKit

set_option maxRecDepth 100000 in
set_option maxHeartbeats 1000000 in
theorem specReadLog (v : Value) (zs : List Int) (w : World) (h : (Lay.sl Lay.int).Reads w [v] zs) :
    Calls Try.prog 20 #[v] w fun e w' => ∃ cs, e = .returned (.agg cs.toArray) ∧ Lay.tWritesResult.LiesIn w' cs (readLogR zs) w.heap.size w'.heap.size ∧ Below w.heap.size w w' := by
  have nb : Below w.heap.size w (w.alloc (.cells #[.int .i64 0, .slice none 0 0] 36)) := (Below.refl _ _).alloc (Nat.le_refl _) _
  have bR : Box w.heap.size #[.int .i64 0, .slice none 0 0] 36 (w.alloc (.cells #[.int .i64 0, .slice none 0 0] 36)) w.heap.size := newBox (Nat.le_refl _)
  have hbig := h.big
  by_cases hn : 320 < zs.length
  · have HY : Hid (readLogR zs = ⟨2, []⟩) := by show readLogR zs = _; rw [readLogR, if_pos hn]
    obtain ⟨ao, cap, rfl⟩ := open_sl h
    clear h nb bR
    go_enter Try.func20, Try.ntmps20
    go_wp2_with fail
    refine bodyPost_ret (v := .agg #[.int .i64 2, .slice none 0 0]) (by simp [results, Try.results20, go_sem]) rfl ?_
    rw [unhide HY]
    exact ⟨[.int .i64 2, .slice none 0 0], rfl, (own_wsR (by decide) nil_own).lies, (Below.refl _ _).alloc (Nat.le_refl _) _⟩
  · have HY : Hid (readLogR zs = ⟨0, readL zs⟩) := by show readLogR zs = _; rw [readLogR, if_neg hn]
    have HL := hide (read8C v zs _ (h.later nb) (by omega))
    obtain ⟨ao, cap, rfl⟩ := open_sl h
    have HB := hide nb
    have HR := hide bR
    clear h nb bR
    go_enter Try.func20, Try.ntmps20
    go_wp2_with fail
    refine (unhide HL).mono ?_
    generalize w.alloc (.cells #[.int .i64 0, .slice none 0 0] 36) = W0 at *
    rintro e w2 ⟨v2, rfl, R, hb⟩
    obtain ⟨a2, c2, rfl⟩ := open_sl R.reads
    have bR := (unhide HR).keep hb
    have hlt := (unhide HR).lt
    have z0 := bR.at 0 _ rfl
    have z1 := bR.at 1 _ rfl
    have f0 := bR.soft 0
    have f1 := bR.soft 1
    have l0 := bR.lt
    have HB2 := hide ((unhide HB).trans (hb.mono (unhide HB).size))
    have HLI := hide R
    have HZ : Hid (w.heap.size < W0.heap.size) := hlt
    clear R hb bR HL HB HR hlt
    go_wp2_with fail
    refine bodyPost_ret (v := .agg #[.int .i64 0, .slice a2 (readL zs).length c2]) (by simp [results, Try.results20, go_sem, z0, z1]) rfl ?_
    rw [unhide HY]
    exact ⟨[.int .i64 0, .slice a2 (readL zs).length c2], rfl, lies_store (vs := [.int .i64 0, .slice a2 (readL zs).length c2]) (lies_wsR (by decide) (unhide HLI)) (unhide HZ) (Nat.le_refl _), below_setAll (unhide HB2) w.heap.size 0 [.int .i64 0, .slice a2 (readL zs).length c2] (Nat.le_refl _)⟩

end Go.Proofs.Ytipomhpimmnchaa

namespace Go.Proofs.Ytipomhpimmnchaa
open Go.RowKit

set_option maxRecDepth 10000 in
set_option maxHeartbeats 2000000 in
theorem sameWrite (cs cs2 : List Value) (x y : DWrite) (w : World) (h : Lay.tWrite.Reads w cs x) (h2 : Lay.tWrite.Reads w cs2 y) :
    Calls Try.prog 80 #[.agg cs.toArray, .agg cs2.toArray] w fun e w' => e = .returned (.bool (sameW x y)) ∧ Below w.heap.size w w' := by
  obtain ⟨a2, d2, rfl, R2⟩ := open_Write h
  obtain ⟨a2z, d2z, rfl, R2z⟩ := open_Write h2
  clear h h2
  have HB : Hid (Below w.heap.size w ((w.alloc (.cells #[.int .i64 x.kind, .int .i64 x.id, .slice a2 x.vec.length d2, .int .i64 x.session, .int .i64 x.seq] 58)).alloc (.cells #[.int .i64 y.kind, .int .i64 y.id, .slice a2z y.vec.length d2z, .int .i64 y.session, .int .i64 y.seq] 58))) := ((Below.refl _ _).alloc (Nat.le_refl _) _).alloc (by simp) _
  cases e0 : (x.kind == y.kind) with
  | false =>
    have HS : Hid (sameW x y = false) := by
      show sameW x y = false
      simp [sameW, e0]
    go_enter Try.func80, Try.ntmps80
    go_wp2_with fail
    go_ret
    exact ⟨by rw [unhide HS]; rfl, unhide HB⟩
  | true =>
    cases e1 : (x.id == y.id) with
    | false =>
      have HS : Hid (sameW x y = false) := by
        show sameW x y = false
        simp [sameW, e0, e1]
      go_enter Try.func80, Try.ntmps80
      go_wp2_with fail
      go_ret
      exact ⟨by rw [unhide HS]; rfl, unhide HB⟩
    | true =>
      cases e2 : (x.session == y.session) with
      | false =>
        have HS : Hid (sameW x y = false) := by
          show sameW x y = false
          simp [sameW, e0, e1, e2]
        go_enter Try.func80, Try.ntmps80
        go_wp2_with fail
        go_ret
        exact ⟨by rw [unhide HS]; rfl, unhide HB⟩
      | true =>
        cases e3 : (x.seq == y.seq) with
        | false =>
          have HS : Hid (sameW x y = false) := by
            show sameW x y = false
            simp [sameW, e0, e1, e2, e3]
          go_enter Try.func80, Try.ntmps80
          go_wp2_with fail
          go_ret
          exact ⟨by rw [unhide HS]; rfl, unhide HB⟩
        | true =>
          have HS : Hid (sameW x y = decide (x.vec = y.vec)) := by
            show sameW x y = decide (x.vec = y.vec)
            simp [sameW, e0, e1, e2, e3]
          have L := hide (slEqual _ _ x.vec y.vec _ ((Lay.ints_reads R2).later (unhide HB)) ((Lay.ints_reads R2z).later (unhide HB)) R2.big)
          clear R2 R2z
          go_enter Try.func80, Try.ntmps80
          go_wp2_with fail
          refine (unhide L).mono ?_
          rintro e w1 ⟨rfl, hb⟩
          have HB1 := hide ((unhide HB).trans (hb.mono (unhide HB).size))
          clear hb L HB
          go_wp2_with fail
          go_ret
          exact ⟨by rw [unhide HS]; rfl, unhide HB1⟩

set_option maxRecDepth 10000 in
set_option maxHeartbeats 2000000 in
theorem equalFunc_pos (b off cap b2 off2 cap2 : Nat) (xs ys : List DWrite) (w : World) (hl : xs.length = ys.length) (h : (Lay.sl Lay.tWrite).Reads w [.slice (some ⟨b, off, none⟩) xs.length cap] xs) (h2 : (Lay.sl Lay.tWrite).Reads w [.slice (some ⟨b2, off2, none⟩) ys.length cap2] ys) (hbl : b < w.heap.size) (hbl2 : b2 < w.heap.size) :
    Calls Try.prog 79 #[.slice (some ⟨b, off, none⟩) xs.length cap, .slice (some ⟨b2, off2, none⟩) xs.length cap2, .func (.func 80) #[] #[]] w fun e w' => e = .returned (.bool (sameWs xs ys)) ∧ Below w.heap.size w w' := by
  have hbig := h.big
  have H := hide h
  have H2 := hide h2
  have HL := hide hl
  clear h h2 hl
  go_enter Try.func79, Try.ntmps79
  go_wp2_with fail
  go_loopw [17] (fun i wr => ∃ k : Nat, k ≤ xs.length ∧ i = .int .i64 k ∧ (∀ j (h1 : j < xs.length) (h2 : j < ys.length), j < k → sameW xs[j] ys[j] = true) ∧ Below w.heap.size w wr) (fun i _ => xs.length - (intOf i).toNat)
  case atStart => exact ⟨0, Nat.zero_le _, rfl, fun j _ _ hj => by omega, Below.refl _ _⟩
  case round =>
    obtain ⟨k, hk, rfl, hq, hB⟩ := hrel
    by_cases hlt : k < xs.length
    · have hlt2 : k < ys.length := by have := unhide HL; omega
      obtain ⟨row, hc, hr⟩ := Lay.row_at (unhide H) hlt
      obtain ⟨rowz, hcz, hrz⟩ := Lay.row_at (unhide H2) hlt2
      replace hr := hr.later hB
      replace hrz := hrz.later hB
      have hr2 := hr
      obtain ⟨a2, d2, rfl, -⟩ := open_Write hr2
      have hrz2 := hrz
      obtain ⟨a2z, d2z, rfl, -⟩ := open_Write hrz2
      have c0 : wr.cell? ⟨b, off + k * 5, none⟩ = some (.int .i64 (xs[k]).kind) := (hB.cell (p := ⟨b, off + k * 5, none⟩) hbl).trans (hc 0 (by decide))
      have c1 : wr.cell? ⟨b, off + k * 5 + 1, none⟩ = some (.int .i64 (xs[k]).id) := (hB.cell (p := ⟨b, off + k * 5 + 1, none⟩) hbl).trans (hc 1 (by decide))
      have c2 : wr.cell? ⟨b, off + k * 5 + 2, none⟩ = some (.slice a2 (xs[k]).vec.length d2) := (hB.cell (p := ⟨b, off + k * 5 + 2, none⟩) hbl).trans (hc 2 (by decide))
      have c3 : wr.cell? ⟨b, off + k * 5 + 3, none⟩ = some (.int .i64 (xs[k]).session) := (hB.cell (p := ⟨b, off + k * 5 + 3, none⟩) hbl).trans (hc 3 (by decide))
      have c4 : wr.cell? ⟨b, off + k * 5 + 4, none⟩ = some (.int .i64 (xs[k]).seq) := (hB.cell (p := ⟨b, off + k * 5 + 4, none⟩) hbl).trans (hc 4 (by decide))
      have c0z : wr.cell? ⟨b2, off2 + k * 5, none⟩ = some (.int .i64 (ys[k]).kind) := (hB.cell (p := ⟨b2, off2 + k * 5, none⟩) hbl2).trans (hcz 0 (by decide))
      have c1z : wr.cell? ⟨b2, off2 + k * 5 + 1, none⟩ = some (.int .i64 (ys[k]).id) := (hB.cell (p := ⟨b2, off2 + k * 5 + 1, none⟩) hbl2).trans (hcz 1 (by decide))
      have c2z : wr.cell? ⟨b2, off2 + k * 5 + 2, none⟩ = some (.slice a2z (ys[k]).vec.length d2z) := (hB.cell (p := ⟨b2, off2 + k * 5 + 2, none⟩) hbl2).trans (hcz 2 (by decide))
      have c3z : wr.cell? ⟨b2, off2 + k * 5 + 3, none⟩ = some (.int .i64 (ys[k]).session) := (hB.cell (p := ⟨b2, off2 + k * 5 + 3, none⟩) hbl2).trans (hcz 3 (by decide))
      have c4z : wr.cell? ⟨b2, off2 + k * 5 + 4, none⟩ = some (.int .i64 (ys[k]).seq) := (hB.cell (p := ⟨b2, off2 + k * 5 + 4, none⟩) hbl2).trans (hcz 4 (by decide))
      have l1 : b < wr.heap.size := Nat.lt_of_lt_of_le hbl hB.size
      have l2 : b2 < wr.heap.size := Nat.lt_of_lt_of_le hbl2 hB.size
      have HQ := hide hq
      have HB := hide hB
      have HR := hide hr
      have HRZ := hide hrz
      have HX : Hid (sameW xs[k] ys[k] = false → sameWs xs ys = false) := sameWs_at k hlt hlt2
      have HY : Hid (sameW xs[k] ys[k] = true → ∀ j (h1 : j < xs.length) (h2 : j < ys.length), j < k + 1 → sameW xs[j] ys[j] = true) := by
        intro h j h1 h2 hj
        by_cases hjk : j < k
        · exact unhide HQ j h1 h2 hjk
        · obtain rfl : j = k := by omega
          exact h
      clear hq hB hr hrz hc hcz HQ
      generalize hx : xs[k] = x at *
      generalize hy : ys[k] = y at *
      clear hx hy
      have nb : Below wr.heap.size wr ((wr.alloc (.cells #[.int .i64 x.kind, .int .i64 x.id, .slice a2 x.vec.length d2, .int .i64 x.session, .int .i64 x.seq] 58)).alloc (.cells #[.int .i64 y.kind, .int .i64 y.id, .slice a2z y.vec.length d2z, .int .i64 y.session, .int .i64 y.seq] 58)) := ((Below.refl _ _).alloc (Nat.le_refl _) _).alloc (by simp) _
      have L := hide (sameWrite _ _ x y _ ((unhide HR).later nb) ((unhide HRZ).later nb))
      replace HB := hide ((unhide HB).trans (nb.mono (unhide HB).size))
      clear nb HR HRZ
      go_wp2_with fail
      refine (unhide L).mono ?_
      rintro e w3 ⟨rfl, hb⟩
      replace HB := hide ((unhide HB).trans (hb.mono (unhide HB).size))
      clear hb L c0 c1 c2 c3 c4 c0z c1z c2z c3z c4z
      cases hs : sameW x y with
      | true =>
        have HZ := hide (unhide HY hs)
        clear hs HX HY
        go_wp2_with fail
        go_roundw
        case rel => exact ⟨k + 1, by omega, by go_num, unhide HZ, unhide HB⟩
        case measure => simp [intOf]; omega
      | false =>
        have HZ := hide (unhide HX hs)
        clear hs HX HY
        go_wp2_with fail
        go_ret
        exact ⟨by rw [unhide HZ]; rfl, unhide HB⟩
    · have HZ := hide (sameWs_all (unhide HL) fun j h1 h2 => hq j h1 h2 (by omega))
      have HB := hide hB
      clear hq hB
      go_wp2_with fail
      go_ret
      exact ⟨by rw [unhide HZ]; rfl, unhide HB⟩

theorem equalFunc_len (ao ao2 : Option Addr) (n m cap cap2 : Nat) (f : Value) (w : World) (h : n ≠ m) :
    Calls Try.prog 79 #[.slice ao n cap, .slice ao2 m cap2, f] w fun e w' => e = .returned (.bool false) ∧ Below w.heap.size w w' := by
  have hd : ((n : Int) != (m : Int)) = true := by rw [bne_iff_ne]; omega
  go_enter Try.func79, Try.ntmps79
  go_wp2_with fail
  go_ret
  exact ⟨rfl, Below.refl _ _⟩
theorem equalFunc_zero (ao ao2 : Option Addr) (cap cap2 : Nat) (f : Value) (w : World) :
    Calls Try.prog 79 #[.slice ao 0 cap, .slice ao2 0 cap2, f] w fun e w' => e = .returned (.bool true) ∧ Below w.heap.size w w' := by
  go_enter Try.func79, Try.ntmps79
  go_wp2_with fail
  refine wp_loop_rounds 1 ?_
  rw [rounds_succ]
  go_wp2_with fail
  go_ret
  exact ⟨rfl, Below.refl _ _⟩

/-- SameWrites of the program. -/
theorem implSame (v v2 : Value) (xs ys : List DWrite) (w : World) (h : (Lay.sl Lay.tWrite).Reads w [v] xs) (h2 : (Lay.sl Lay.tWrite).Reads w [v2] ys) :
    Calls Try.prog 51 #[v, v2] w fun e w' => e = .returned (.bool (sameWs xs ys)) ∧ Below w.heap.size w w' := by
  obtain ⟨ao, cap, rfl⟩ := open_sl h
  obtain ⟨ao2, cap2, rfl⟩ := open_sl h2
  have L : Hid (Calls Try.prog 79 #[.slice ao xs.length cap, .slice ao2 ys.length cap2, .func (.func 80) #[] #[]] w fun e w' => e = .returned (.bool (sameWs xs ys)) ∧ Below w.heap.size w w') := by
    show Calls Try.prog 79 #[.slice ao xs.length cap, .slice ao2 ys.length cap2, .func (.func 80) #[] #[]] w fun e w' => e = .returned (.bool (sameWs xs ys)) ∧ Below w.heap.size w w'
    by_cases hl : xs.length = ys.length
    · by_cases hp : 0 < xs.length
      · obtain ⟨b, off, rfl, hbl⟩ := Lay.sl_addr h hp
        obtain ⟨b2, off2, rfl, hbl2⟩ := Lay.sl_addr h2 (by omega)
        rw [← hl]
        exact equalFunc_pos b off cap b2 off2 cap2 xs ys w hl h (by rw [← hl] at h2 ⊢; exact h2) hbl hbl2
      · obtain rfl : xs = [] := List.eq_nil_of_length_eq_zero (by omega)
        obtain rfl : ys = [] := List.eq_nil_of_length_eq_zero (by simpa using hl.symm)
        exact equalFunc_zero ao ao2 cap cap2 _ w
    · rw [sameWs_len hl]
      exact equalFunc_len ao ao2 _ _ cap cap2 _ w hl
  clear h h2
  go_enter Try.func51, Try.ntmps51
  go_wp2_with fail
  refine (unhide L).mono ?_
  rintro e w1 ⟨rfl, hb⟩
  have HB := hide hb
  clear hb L
  go_wp2_with fail
  go_ret
  exact ⟨rfl, unhide HB⟩

end Go.Proofs.Ytipomhpimmnchaa
