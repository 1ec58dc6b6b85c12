/-
  readWrite of the program, at the words of a put: the write, or that its numbers are none; nothing old is written.
  Condition: what strings.Split and readDeed tell (premises).
-/
import Derived.Test.YtjfplfhdfiebgaaDoorPq11
import Derived.Test.YtjfplfhdfiebgaaDoorPq02
import Derived.Deep.CutRange

namespace Go.Proofs.YtjfplfhdfiebgaaDoor
open Go.RowKit

set_option maxRecDepth 100000 in
set_option maxHeartbeats 4000000 in
theorem readW_put (s : ByteArray) (d a t b c : ByteArray) (p q r : Int) (l : List Bytes) (w : World) (hsp : ∀ W : World, W = w.alloc (.cells #[.int .i64 0, .int .i64 0, .slice none 0 0, .int .i64 0, .int .i64 0] 29) → Calls Tryd.prog 48 #[.string s, .string ⟨#[32]⟩] W fun e w' => e = .returned (.slice (some ⟨W.heap.size, 0, none⟩) 6 6) ∧ w' = W.alloc (.cells #[.string d, .string a, .string t, .string ⟨#[98, 121]⟩, .string b, .string c] 9)) (hpw : ∀ z ∈ [p, q, r], (Lit.int .i64 z).wf = true) (sa : a.size ≤ 1048576) (sb : b.size ≤ 1048576) (sc : c.size ≤ 1048576) (hl : readI l = if tailI 1 [p, q, r] a.data.toList b.data.toList c.data.toList = true then some (tailX 1 [p, q, r] a.data.toList b.data.toList c.data.toList) else none) (hd : ∀ W, Box 0 #[.string d, .string a, .string t, .string ⟨#[98, 121]⟩, .string b, .string c] 9 W (w.heap.size + 1) → Calls Tryd.prog 49 #[.slice (some ⟨w.heap.size + 1, 0, none⟩) 3 6] W fun e w' => e = .returned (.tuple #[putV p q r, .bool true]) ∧ Below W.heap.size W w') :
    Calls Tryd.prog 27 #[.string s] w fun e w' => ∃ (k i : Int) (a : Option Addr) (n c : Nat) (ss q : Int) (ok : Bool), e = .returned (.tuple #[.agg #[.int .i64 k, .int .i64 i, .slice a n c, .int .i64 ss, .int .i64 q], .bool ok]) ∧ (ok = true → ∃ x, readI l = some x ∧ Lay.tWrite.OwnIn w' [.int .i64 k, .int .i64 i, .slice a n c, .int .i64 ss, .int .i64 q] x w.heap.size w'.heap.size) ∧ (ok = false → readI l = none) ∧ Below w.heap.size w w' := by
  have nb : Below w.heap.size w (w.alloc (.cells #[.int .i64 0, .int .i64 0, .slice none 0 0, .int .i64 0, .int .i64 0] 29)) := (Below.refl _ _).alloc (Nat.le_refl _) _
  have bR0 : Box 0 #[.int .i64 0, .int .i64 0, .slice none 0 0, .int .i64 0, .int .i64 0] 29 (w.alloc (.cells #[.int .i64 0, .int .i64 0, .slice none 0 0, .int .i64 0, .int .i64 0] 29)) w.heap.size := newBox (Nat.zero_le _)
  have hs0 : (w.alloc (.cells #[.int .i64 0, .int .i64 0, .slice none 0 0, .int .i64 0, .int .i64 0] 29)).heap.size = w.heap.size + 1 := by simp
  have HSP := hide (hsp _ rfl)
  clear hsp
  go_enter Tryd.func27, Tryd.ntmps27
  go_wp2_with fail
  generalize w.alloc (.cells #[.int .i64 0, .int .i64 0, .slice none 0 0, .int .i64 0, .int .i64 0] 29) = w1 at *
  refine (unhide HSP).mono ?_
  rintro e w2 ⟨rfl, hw2⟩
  have nb2 : Below w1.heap.size w1 w2 := by rw [hw2]; exact (Below.refl _ _).alloc (Nat.le_refl _) _
  have bS : Box 0 #[.string d, .string a, .string t, .string ⟨#[98, 121]⟩, .string b, .string c] 9 w2 w1.heap.size := by rw [hw2]; exact newBox (Nat.zero_le _)
  have bR := bR0.keep nb2
  have HB2 := hide (nb.trans (nb2.mono nb.size))
  have hlt2 := bS.lt
  rw [hs0] at *
  clear hw2 nb nb2 bR0 HSP
  have HPW := hide hpw
  clear hpw
  have HD := hide (hd w2 bS)
  have HR := hide bR
  have HS := hide bS
  have s0 : w2.cell? ⟨w.heap.size + 1, 0, none⟩ = some (.string d) := bS.at 0 _ rfl
  have s1 : w2.cell? ⟨w.heap.size + 1, 1, none⟩ = some (.string a) := bS.at 1 _ rfl
  have s2 : w2.cell? ⟨w.heap.size + 1, 2, none⟩ = some (.string t) := bS.at 2 _ rfl
  have s3 : w2.cell? ⟨w.heap.size + 1, 3, none⟩ = some (.string ⟨#[98, 121]⟩) := bS.at 3 _ rfl
  have s4 : w2.cell? ⟨w.heap.size + 1, 4, none⟩ = some (.string b) := bS.at 4 _ rfl
  have s5 : w2.cell? ⟨w.heap.size + 1, 5, none⟩ = some (.string c) := bS.at 5 _ rfl
  clear bS bR hd
  simp only [putV] at *
  go_wp2_with fail
  clear s0 s1 s2 s3 s4 s5
  refine (unhide HD).mono ?_
  rintro e w3 ⟨rfl, hb3⟩
  have HR3 := hide ((unhide HR).keep hb3)
  have bS := (unhide HS).keep hb3
  replace HB2 := hide ((unhide HB2).trans (hb3.mono (unhide HB2).size))
  have h3 : w2.heap.size ≤ w3.heap.size := hb3.size
  have s0 : w3.cell? ⟨w.heap.size + 1, 0, none⟩ = some (.string d) := bS.at 0 _ rfl
  have s1 : w3.cell? ⟨w.heap.size + 1, 1, none⟩ = some (.string a) := bS.at 1 _ rfl
  have s2 : w3.cell? ⟨w.heap.size + 1, 2, none⟩ = some (.string t) := bS.at 2 _ rfl
  have s3 : w3.cell? ⟨w.heap.size + 1, 3, none⟩ = some (.string ⟨#[98, 121]⟩) := bS.at 3 _ rfl
  have s4 : w3.cell? ⟨w.heap.size + 1, 4, none⟩ = some (.string b) := bS.at 4 _ rfl
  have s5 : w3.cell? ⟨w.heap.size + 1, 5, none⟩ = some (.string c) := bS.at 5 _ rfl
  have HN1 := hide (readNumber_c a 3 w3 sa (by decide))
  have HN2 := hide (readNumber_c b 1 w3 sb (by decide))
  have HN3 := hide (readNumber_c c 3 w3 sc (by decide))
  have hT : tailI 1 [p, q, r] a.data.toList b.data.toList c.data.toList = (((readN 3 a.data.toList).2 && (readN 1 b.data.toList).2 && (readN 3 c.data.toList).2) && (writeFault 1 (readN 3 a.data.toList).1 [p, q, r] (readN 1 b.data.toList).1 (readN 3 c.data.toList).1 == 0)) := rfl
  have hX : tailX 1 [p, q, r] a.data.toList b.data.toList c.data.toList = ⟨1, (readN 3 a.data.toList).1, [p, q, r], (readN 1 b.data.toList).1, (readN 3 c.data.toList).1⟩ := rfl
  rw [hT, hX] at hl
  have HL := hide hl
  clear hT hX hl
  generalize (readN 3 a.data.toList).1 = n1 at *
  generalize (readN 1 b.data.toList).1 = n2 at *
  generalize (readN 3 c.data.toList).1 = n3 at *
  generalize (readN 3 a.data.toList).2 = o1 at *
  generalize (readN 1 b.data.toList).2 = o2 at *
  generalize (readN 3 c.data.toList).2 = o3 at *
  have HW := hide (writeOf_put p q r n1 n2 n3 w3)
  clear HR HS HD hb3 bS
  go_wp2_with fail
  refine (unhide HN1).mono ?_
  rintro e w4 ⟨rfl, hw4⟩
  rw [hw4]
  clear hw4 w4
  go_wp2_with fail
  refine (unhide HN2).mono ?_
  rintro e w4 ⟨rfl, hw4⟩
  rw [hw4]
  clear hw4 w4
  go_wp2_with fail
  refine (unhide HN3).mono ?_
  rintro e w4 ⟨rfl, hw4⟩
  rw [hw4]
  clear hw4 w4 HN1 HN2 HN3 s0 s1 s2 s3 s4 s5
  go_wp2_with fail
  refine (unhide HW).mono ?_
  rintro e w5 ⟨ax, cx, rfl, hO0, hb5⟩
  have hO := Lay.ownInts (zs := [p, q, r]) (unhide HPW) (by simp) hO0
  obtain ⟨blV, oV, iV⟩ := hO
  have nb6 : Below w5.heap.size w5 (w5.alloc (.cells #[.int .i64 1, .int .i64 n1, .slice ax 3 cx, .int .i64 n2, .int .i64 n3] 29)) := (Below.refl _ _).alloc (Nat.le_refl _) _
  have HQ : Hid (Box 0 #[.int .i64 1, .int .i64 n1, .slice ax 3 cx, .int .i64 n2, .int .i64 n3] 29 (w5.alloc (.cells #[.int .i64 1, .int .i64 n1, .slice ax 3 cx, .int .i64 n2, .int .i64 n3] 29)) w5.heap.size) := newBox (Nat.zero_le _)
  have HR6 := hide (((unhide HR3).keep hb5).keep nb6)
  have HB6 := hide (((unhide HB2).trans (hb5.mono (unhide HB2).size)).trans (nb6.mono (Nat.le_trans (unhide HB2).size hb5.size)))
  have HV : Hid ((Lay.sl Lay.int).OwnIn (w5.alloc (.cells #[.int .i64 1, .int .i64 n1, .slice ax 3 cx, .int .i64 n2, .int .i64 n3] 29)) [.slice ax 3 cx] [p, q, r] (w.heap.size + 1) (w5.alloc (.cells #[.int .i64 1, .int .i64 n1, .slice ax 3 cx, .int .i64 n2, .int .i64 n3] 29)).heap.size) := (Lay.OwnIn.later (A := Lay.sl Lay.int) ⟨blV, oV, iV⟩ nb6).mono (by omega) nb6.size
  have h5 : w3.heap.size ≤ w5.heap.size := hb5.size
  clear hb5 nb6 oV iV HW HR3 HB2
  go_upto_region 12 with fail
  generalize w5.alloc (.cells #[.int .i64 1, .int .i64 n1, .slice ax 3 cx, .int .i64 n2, .int .i64 n3] 29) = w6 at *
  generalize w5.heap.size = pQ at *
  have hQ := unhide HQ
  have hR := unhide HR6
  have hlq := hQ.lt
  clear HQ HR6
  cases o1 with
  | false =>
    have hRT : Box 0 #[.int .i64 0, .int .i64 0, .slice none 0 0, .int .i64 0, .int .i64 0] 29 w6.drew w.heap.size := hR
    have HBT := hide (unhide HB6).drew
    refine wp_region_noPanic ?_
    refine wp_region_held_drew (S := fun w' => Ext (fun c => c = w.heap.size) w6 w') (by kernel_rfl) ⟨rfl, rfl, rfl, Nat.le_refl _, fun _ _ _ => rfl⟩ (fun hHeld => ?_)
    generalize w6.drew = wT at hHeld hRT HBT ⊢
    refine wpAnyH_take (i := 0) (oi := { dst := some 70, op := Go.Op.load 29 (Go.Operand.tmp 14), type := 29, pos := "l03_write.go:214", after := #[], guard := none }) (v := ?vr00) rfl (by kernel_rfl) (by kernel_rfl) (by kernel_rfl) (fun _ _ _ h => h) (Or.inl ⟨by rfl, ?hr00⟩) hHeld ?rr00
    case hr00 =>
      intro wS hSw
      have y0 : wS.cell? ⟨pQ, 0, none⟩ = some (.int .i64 1) := (hQ.ext hSw (by omega)).at 0 _ rfl
      have y1 : wS.cell? ⟨pQ, 1, none⟩ = some (.int .i64 n1) := (hQ.ext hSw (by omega)).at 1 _ rfl
      have y2 : wS.cell? ⟨pQ, 2, none⟩ = some (.slice ax 3 cx) := (hQ.ext hSw (by omega)).at 2 _ rfl
      have y3 : wS.cell? ⟨pQ, 3, none⟩ = some (.int .i64 n2) := (hQ.ext hSw (by omega)).at 3 _ rfl
      have y4 : wS.cell? ⟨pQ, 4, none⟩ = some (.int .i64 n3) := (hQ.ext hSw (by omega)).at 4 _ rfl
      clear hSw
      (try dsimp only at hSw)
      go_simp
      try with_reducible rfl
    case rr00 =>
    simp only [Act.put, List.setIfInBounds_toArray, List.set_cons_zero, List.set_cons_succ]
    refine wpAnyH_take (i := 1) (oi := { dst := some 71, op := Go.Op.move (Go.Operand.tmp 9), type := 4, pos := "l03_write.go:214", after := #[], guard := none }) (v := ?vr01) rfl (by kernel_rfl) (by kernel_rfl) (by kernel_rfl) (fun _ _ _ h => h) (Or.inl ⟨by rfl, ?hr01⟩) hHeld ?rr01
    case hr01 =>
      intro wS hSw
      (try dsimp only at hSw)
      go_simp
      try with_reducible rfl
    case rr01 =>
    simp only [Act.put, List.setIfInBounds_toArray, List.set_cons_zero, List.set_cons_succ]
    refine wpAnyH_take (i := 2) (oi := { dst := some 72, op := Go.Op.move (Go.Operand.tmp 71), type := 4, pos := "l03_write.go:214", after := #[{ on := 1, ground := Go.Ground.data }], guard := none }) (v := ?vr02) rfl (by kernel_rfl) (by kernel_rfl) (by kernel_rfl) (fun _ _ _ h => h) (Or.inl ⟨by rfl, ?hr02⟩) hHeld ?rr02
    case hr02 =>
      intro wS hSw
      (try dsimp only at hSw)
      go_simp
      try with_reducible rfl
    case rr02 =>
    simp only [Act.put, List.setIfInBounds_toArray, List.set_cons_zero, List.set_cons_succ]
    refine wpAnyH_take (i := 3) (oi := { dst := some 73, op := Go.Op.move (Go.Operand.tmp 11), type := 4, pos := "l03_write.go:214", after := #[{ on := 2, ground := Go.Ground.guard }], guard := some (2, true) }) (v := undef) rfl (by kernel_rfl) (by kernel_rfl) (by kernel_rfl) (fun _ _ _ h => h) (Or.inr ⟨by rfl, rfl⟩) hHeld ?_
    simp only [Act.put, List.setIfInBounds_toArray, List.set_cons_zero, List.set_cons_succ]
    refine wpAnyH_take (i := 4) (oi := { dst := some 74, op := Go.Op.pick (Go.Operand.tmp 72) (Go.Operand.tmp 73) (Go.Operand.const (Go.Value.bool false)), type := 4, pos := "l03_write.go:214", after := #[{ on := 2, ground := Go.Ground.data }, { on := 3, ground := Go.Ground.data }], guard := none }) (v := ?vr04) rfl (by kernel_rfl) (by kernel_rfl) (by kernel_rfl) (fun _ _ _ h => h) (Or.inl ⟨by rfl, ?hr04⟩) hHeld ?rr04
    case hr04 =>
      intro wS hSw
      (try dsimp only at hSw)
      go_simp
      try with_reducible rfl
    case rr04 =>
    simp only [Act.put, List.setIfInBounds_toArray, List.set_cons_zero, List.set_cons_succ]
    refine wpAnyH_take (i := 5) (oi := { dst := some 75, op := Go.Op.move (Go.Operand.tmp 74), type := 4, pos := "l03_write.go:214", after := #[{ on := 4, ground := Go.Ground.data }, { on := 2, ground := Go.Ground.chain }], guard := none }) (v := ?vr05) rfl (by kernel_rfl) (by kernel_rfl) (by kernel_rfl) (fun _ _ _ h => h) (Or.inl ⟨by rfl, ?hr05⟩) hHeld ?rr05
    case hr05 =>
      intro wS hSw
      (try dsimp only at hSw)
      go_simp
      try with_reducible rfl
    case rr05 =>
    simp only [Act.put, List.setIfInBounds_toArray, List.set_cons_zero, List.set_cons_succ]
    refine wpAnyH_take (i := 6) (oi := { dst := some 76, op := Go.Op.move (Go.Operand.tmp 13), type := 4, pos := "l03_write.go:214", after := #[{ on := 5, ground := Go.Ground.guard }], guard := some (5, true) }) (v := undef) rfl (by kernel_rfl) (by kernel_rfl) (by kernel_rfl) (fun _ _ _ h => h) (Or.inr ⟨by rfl, rfl⟩) hHeld ?_
    simp only [Act.put, List.setIfInBounds_toArray, List.set_cons_zero, List.set_cons_succ]
    refine wpAnyH_take (i := 7) (oi := { dst := some 77, op := Go.Op.pick (Go.Operand.tmp 75) (Go.Operand.tmp 76) (Go.Operand.const (Go.Value.bool false)), type := 4, pos := "l03_write.go:214", after := #[{ on := 5, ground := Go.Ground.data }, { on := 6, ground := Go.Ground.data }], guard := none }) (v := ?vr07) rfl (by kernel_rfl) (by kernel_rfl) (by kernel_rfl) (fun _ _ _ h => h) (Or.inl ⟨by rfl, ?hr07⟩) hHeld ?rr07
    case hr07 =>
      intro wS hSw
      (try dsimp only at hSw)
      go_simp
      try with_reducible rfl
    case rr07 =>
    simp only [Act.put, List.setIfInBounds_toArray, List.set_cons_zero, List.set_cons_succ]
    refine wpAnyH_take (i := 8) (oi := { dst := some 78, op := Go.Op.move (Go.Operand.tmp 77), type := 4, pos := "l03_write.go:214", after := #[{ on := 7, ground := Go.Ground.data }, { on := 5, ground := Go.Ground.chain }], guard := none }) (v := ?vr08) rfl (by kernel_rfl) (by kernel_rfl) (by kernel_rfl) (fun _ _ _ h => h) (Or.inl ⟨by rfl, ?hr08⟩) hHeld ?rr08
    case hr08 =>
      intro wS hSw
      (try dsimp only at hSw)
      go_simp
      try with_reducible rfl
    case rr08 =>
    simp only [Act.put, List.setIfInBounds_toArray, List.set_cons_zero, List.set_cons_succ]
    refine wpAnyH_take (i := 9) (oi := { dst := some 79, op := Go.Op.load 29 (Go.Operand.tmp 14), type := 29, pos := "l03_write.go:214", after := #[{ on := 8, ground := Go.Ground.guard }], guard := some (8, true) }) (v := undef) rfl (by kernel_rfl) (by kernel_rfl) (by kernel_rfl) (fun _ _ _ h => h) (Or.inr ⟨by rfl, rfl⟩) hHeld ?_
    simp only [Act.put, List.setIfInBounds_toArray, List.set_cons_zero, List.set_cons_succ]
    refine wpAnyH_take (i := 10) (oi := { dst := some 80, op := Go.Op.call { callee := Go.Callee.value (Go.Operand.func 52), args := #[Go.Operand.tmp 79], argTypes := #[29] }, type := 2, pos := "l03_write.go:214", after := #[{ on := 9, ground := Go.Ground.data }, { on := 8, ground := Go.Ground.chain }, { on := 8, ground := Go.Ground.guard }], guard := some (8, true) }) (v := undef) rfl (by kernel_rfl) (by kernel_rfl) (by kernel_rfl) (fun _ _ _ h => h) (Or.inr ⟨by rfl, rfl⟩) hHeld ?_
    simp only [Act.put, List.setIfInBounds_toArray, List.set_cons_zero, List.set_cons_succ]
    refine wpAnyH_take (i := 11) (oi := { dst := some 81, op := Go.Op.binOp Go.BinOp.eql 2 (Go.Operand.tmp 80) (Go.Operand.const (Go.Value.int Go.IntKind.i64 0)) 2, type := 4, pos := "l03_write.go:214", after := #[{ on := 10, ground := Go.Ground.data }, { on := 8, ground := Go.Ground.guard }, { on := 13, ground := Go.Ground.gcOnly Go.Departure.lateStores }], guard := some (8, true) }) (v := undef) rfl (by kernel_rfl) (by kernel_rfl) (by kernel_rfl) (fun _ _ _ h => h) (Or.inr ⟨by rfl, rfl⟩) hHeld ?_
    simp only [Act.put, List.setIfInBounds_toArray, List.set_cons_zero, List.set_cons_succ]
    refine wpAnyH_take (i := 12) (oi := { dst := some 82, op := Go.Op.pick (Go.Operand.tmp 78) (Go.Operand.tmp 81) (Go.Operand.const (Go.Value.bool false)), type := 4, pos := "l03_write.go:214", after := #[{ on := 8, ground := Go.Ground.data }, { on := 11, ground := Go.Ground.data }, { on := 13, ground := Go.Ground.gcOnly Go.Departure.lateStores }], guard := none }) (v := ?vr012) rfl (by kernel_rfl) (by kernel_rfl) (by kernel_rfl) (fun _ _ _ h => h) (Or.inl ⟨by rfl, ?hr012⟩) hHeld ?rr012
    case hr012 =>
      intro wS hSw
      (try dsimp only at hSw)
      go_simp
      try with_reducible rfl
    case rr012 =>
    simp only [Act.put, List.setIfInBounds_toArray, List.set_cons_zero, List.set_cons_succ]
    refine wpAnyH_ready (rs := [13]) (by kernel_rfl) (by simp) ?_
    refine AllReadyH.cons (o := { dst := none, op := Go.Op.store 29 (Go.Operand.tmp 2) (Go.Operand.tmp 70), type := 0, pos := "l03_write.go:214", after := #[{ on := 0, ground := Go.Ground.data }, { on := 10, ground := Go.Ground.chain }, { on := 0, ground := Go.Ground.phase }, { on := 1, ground := Go.Ground.textOnly Go.Departure.lateStores }, { on := 2, ground := Go.Ground.textOnly Go.Departure.lateStores }, { on := 3, ground := Go.Ground.textOnly Go.Departure.lateStores }, { on := 4, ground := Go.Ground.textOnly Go.Departure.lateStores }, { on := 5, ground := Go.Ground.textOnly Go.Departure.lateStores }, { on := 6, ground := Go.Ground.textOnly Go.Departure.lateStores }, { on := 7, ground := Go.Ground.textOnly Go.Departure.lateStores }, { on := 8, ground := Go.Ground.textOnly Go.Departure.lateStores }, { on := 9, ground := Go.Ground.textOnly Go.Departure.lateStores }, { on := 10, ground := Go.Ground.textOnly Go.Departure.lateStoresUnsure }, { on := 11, ground := Go.Ground.textOnly Go.Departure.lateStores }, { on := 12, ground := Go.Ground.textOnly Go.Departure.lateStores }], guard := none }) rfl (fun K hK => ?_) AllReadyH.nil
    have z0 : wT.cell? ⟨w.heap.size, 0, none⟩ = some (.int .i64 0) := (hRT).at 0 _ rfl
    have z1 : wT.cell? ⟨w.heap.size, 1, none⟩ = some (.int .i64 0) := (hRT).at 1 _ rfl
    have z2 : wT.cell? ⟨w.heap.size, 2, none⟩ = some (.slice none 0 0) := (hRT).at 2 _ rfl
    have z3 : wT.cell? ⟨w.heap.size, 3, none⟩ = some (.int .i64 0) := (hRT).at 3 _ rfl
    have z4 : wT.cell? ⟨w.heap.size, 4, none⟩ = some (.int .i64 0) := (hRT).at 4 _ rfl
    have f0 := hRT.soft 0
    have f1 := hRT.soft 1
    have f2 := hRT.soft 2
    have f3 := hRT.soft 3
    have f4 := hRT.soft 4
    have lR := hRT.lt
    go_simp
    refine hK.out _ _ (((((hHeld.setCell ⟨w.heap.size, 0, none⟩ _ rfl).setCell ⟨w.heap.size, 1, none⟩ _ rfl).setCell ⟨w.heap.size, 2, none⟩ _ rfl).setCell ⟨w.heap.size, 3, none⟩ _ rfl).setCell ⟨w.heap.size, 4, none⟩ _ rfl) (fun hHeld => ?_)
    clear hK K
    try simp only [Act.put, List.setIfInBounds_toArray, List.set_cons_zero, List.set_cons_succ]
    refine wpAnyH_take (i := 14) (oi := { dst := some 3, op := Go.Op.assign (Go.Operand.tmp 82), type := 4, pos := "l03_write.go:214", after := #[{ on := 12, ground := Go.Ground.data }, { on := 13, ground := Go.Ground.chain }, { on := 0, ground := Go.Ground.phase }, { on := 1, ground := Go.Ground.phase }, { on := 2, ground := Go.Ground.phase }, { on := 3, ground := Go.Ground.phase }, { on := 4, ground := Go.Ground.phase }, { on := 5, ground := Go.Ground.phase }, { on := 6, ground := Go.Ground.phase }, { on := 7, ground := Go.Ground.phase }, { on := 8, ground := Go.Ground.phase }, { on := 9, ground := Go.Ground.phase }, { on := 10, ground := Go.Ground.phase }, { on := 11, ground := Go.Ground.phase }, { on := 12, ground := Go.Ground.phase }, { on := 13, ground := Go.Ground.phase }], guard := none }) (v := ?vr014) rfl (by kernel_rfl) (by kernel_rfl) (by kernel_rfl) (fun _ _ _ h => h) (Or.inl ⟨by rfl, ?hr014⟩) hHeld ?rr014
    case hr014 =>
      intro wS hSw
      (try dsimp only at hSw)
      go_simp
      try with_reducible rfl
    case rr014 =>
    simp only [Act.put, List.setIfInBounds_toArray, List.set_cons_zero, List.set_cons_succ]
    refine wpAnyH_done (by kernel_rfl) ?_ _
    refine NoPanic.normal ?_
    have hE : Ext (fun c => c = w.heap.size) wT (((((wT.setCell ⟨w.heap.size, 0, none⟩ (.int .i64 1)).setCell ⟨w.heap.size, 1, none⟩ (.int .i64 n1)).setCell ⟨w.heap.size, 2, none⟩ (.slice ax 3 cx)).setCell ⟨w.heap.size, 3, none⟩ (.int .i64 n2)).setCell ⟨w.heap.size, 4, none⟩ (.int .i64 n3)) := ((((((Ext.refl (fun c => c = w.heap.size) _).setCell ⟨w.heap.size, 0, none⟩ _ rfl).setCell ⟨w.heap.size, 1, none⟩ _ rfl).setCell ⟨w.heap.size, 2, none⟩ _ rfl).setCell ⟨w.heap.size, 3, none⟩ _ rfl).setCell ⟨w.heap.size, 4, none⟩ _ rfl)
    have hRZ := (((((hRT.set 0 (.int .i64 1)).set 1 (.int .i64 n1)).set 2 (.slice ax 3 cx)).set 3 (.int .i64 n2)).set 4 (.int .i64 n3))
    have z0 : (((((wT.setCell ⟨w.heap.size, 0, none⟩ (.int .i64 1)).setCell ⟨w.heap.size, 1, none⟩ (.int .i64 n1)).setCell ⟨w.heap.size, 2, none⟩ (.slice ax 3 cx)).setCell ⟨w.heap.size, 3, none⟩ (.int .i64 n2)).setCell ⟨w.heap.size, 4, none⟩ (.int .i64 n3)).cell? ⟨w.heap.size, 0, none⟩ = some (.int .i64 1) := hRZ.at 0 _ rfl
    have z1 : (((((wT.setCell ⟨w.heap.size, 0, none⟩ (.int .i64 1)).setCell ⟨w.heap.size, 1, none⟩ (.int .i64 n1)).setCell ⟨w.heap.size, 2, none⟩ (.slice ax 3 cx)).setCell ⟨w.heap.size, 3, none⟩ (.int .i64 n2)).setCell ⟨w.heap.size, 4, none⟩ (.int .i64 n3)).cell? ⟨w.heap.size, 1, none⟩ = some (.int .i64 n1) := hRZ.at 1 _ rfl
    have z2 : (((((wT.setCell ⟨w.heap.size, 0, none⟩ (.int .i64 1)).setCell ⟨w.heap.size, 1, none⟩ (.int .i64 n1)).setCell ⟨w.heap.size, 2, none⟩ (.slice ax 3 cx)).setCell ⟨w.heap.size, 3, none⟩ (.int .i64 n2)).setCell ⟨w.heap.size, 4, none⟩ (.int .i64 n3)).cell? ⟨w.heap.size, 2, none⟩ = some (.slice ax 3 cx) := hRZ.at 2 _ rfl
    have z3 : (((((wT.setCell ⟨w.heap.size, 0, none⟩ (.int .i64 1)).setCell ⟨w.heap.size, 1, none⟩ (.int .i64 n1)).setCell ⟨w.heap.size, 2, none⟩ (.slice ax 3 cx)).setCell ⟨w.heap.size, 3, none⟩ (.int .i64 n2)).setCell ⟨w.heap.size, 4, none⟩ (.int .i64 n3)).cell? ⟨w.heap.size, 3, none⟩ = some (.int .i64 n2) := hRZ.at 3 _ rfl
    have z4 : (((((wT.setCell ⟨w.heap.size, 0, none⟩ (.int .i64 1)).setCell ⟨w.heap.size, 1, none⟩ (.int .i64 n1)).setCell ⟨w.heap.size, 2, none⟩ (.slice ax 3 cx)).setCell ⟨w.heap.size, 3, none⟩ (.int .i64 n2)).setCell ⟨w.heap.size, 4, none⟩ (.int .i64 n3)).cell? ⟨w.heap.size, 4, none⟩ = some (.int .i64 n3) := hRZ.at 4 _ rfl
    have HBZ : Hid (Below w.heap.size w (((((wT.setCell ⟨w.heap.size, 0, none⟩ (.int .i64 1)).setCell ⟨w.heap.size, 1, none⟩ (.int .i64 n1)).setCell ⟨w.heap.size, 2, none⟩ (.slice ax 3 cx)).setCell ⟨w.heap.size, 3, none⟩ (.int .i64 n2)).setCell ⟨w.heap.size, 4, none⟩ (.int .i64 n3))) := (unhide HBT).trans (hE.below (by have := (unhide HBT).size; omega) (fun k hk e => by omega))
    clear hHeld hE hRZ hRT
    generalize (((((wT.setCell ⟨w.heap.size, 0, none⟩ (.int .i64 1)).setCell ⟨w.heap.size, 1, none⟩ (.int .i64 n1)).setCell ⟨w.heap.size, 2, none⟩ (.slice ax 3 cx)).setCell ⟨w.heap.size, 3, none⟩ (.int .i64 n2)).setCell ⟨w.heap.size, 4, none⟩ (.int .i64 n3)) = wZ at *
    go_wp2_with fail
    refine bodyPost_ret (v := .tuple #[.agg #[.int .i64 1, .int .i64 n1, .slice ax 3 cx, .int .i64 n2, .int .i64 n3], .bool false]) (by simp [results, Tryd.results27, go_sem, z0, z1, z2, z3, z4]) rfl ?_
    exact ⟨_, _, _, _, _, _, _, false, rfl, (fun h => by cases h), fun _ => by rw [unhide HL]; simp, unhide HBZ⟩
  | true =>
    cases o2 with
    | false =>
      have hRT : Box 0 #[.int .i64 0, .int .i64 0, .slice none 0 0, .int .i64 0, .int .i64 0] 29 w6.drew w.heap.size := hR
      have HBT := hide (unhide HB6).drew
      refine wp_region_noPanic ?_
      refine wp_region_held_drew (S := fun w' => Ext (fun c => c = w.heap.size) w6 w') (by kernel_rfl) ⟨rfl, rfl, rfl, Nat.le_refl _, fun _ _ _ => rfl⟩ (fun hHeld => ?_)
      generalize w6.drew = wT at hHeld hRT HBT ⊢
      refine wpAnyH_take (i := 0) (oi := { dst := some 70, op := Go.Op.load 29 (Go.Operand.tmp 14), type := 29, pos := "l03_write.go:214", after := #[], guard := none }) (v := ?vr10) rfl (by kernel_rfl) (by kernel_rfl) (by kernel_rfl) (fun _ _ _ h => h) (Or.inl ⟨by rfl, ?hr10⟩) hHeld ?rr10
      case hr10 =>
        intro wS hSw
        have y0 : wS.cell? ⟨pQ, 0, none⟩ = some (.int .i64 1) := (hQ.ext hSw (by omega)).at 0 _ rfl
        have y1 : wS.cell? ⟨pQ, 1, none⟩ = some (.int .i64 n1) := (hQ.ext hSw (by omega)).at 1 _ rfl
        have y2 : wS.cell? ⟨pQ, 2, none⟩ = some (.slice ax 3 cx) := (hQ.ext hSw (by omega)).at 2 _ rfl
        have y3 : wS.cell? ⟨pQ, 3, none⟩ = some (.int .i64 n2) := (hQ.ext hSw (by omega)).at 3 _ rfl
        have y4 : wS.cell? ⟨pQ, 4, none⟩ = some (.int .i64 n3) := (hQ.ext hSw (by omega)).at 4 _ rfl
        clear hSw
        (try dsimp only at hSw)
        go_simp
        try with_reducible rfl
      case rr10 =>
      simp only [Act.put, List.setIfInBounds_toArray, List.set_cons_zero, List.set_cons_succ]
      refine wpAnyH_take (i := 1) (oi := { dst := some 71, op := Go.Op.move (Go.Operand.tmp 9), type := 4, pos := "l03_write.go:214", after := #[], guard := none }) (v := ?vr11) rfl (by kernel_rfl) (by kernel_rfl) (by kernel_rfl) (fun _ _ _ h => h) (Or.inl ⟨by rfl, ?hr11⟩) hHeld ?rr11
      case hr11 =>
        intro wS hSw
        (try dsimp only at hSw)
        go_simp
        try with_reducible rfl
      case rr11 =>
      simp only [Act.put, List.setIfInBounds_toArray, List.set_cons_zero, List.set_cons_succ]
      refine wpAnyH_take (i := 2) (oi := { dst := some 72, op := Go.Op.move (Go.Operand.tmp 71), type := 4, pos := "l03_write.go:214", after := #[{ on := 1, ground := Go.Ground.data }], guard := none }) (v := ?vr12) rfl (by kernel_rfl) (by kernel_rfl) (by kernel_rfl) (fun _ _ _ h => h) (Or.inl ⟨by rfl, ?hr12⟩) hHeld ?rr12
      case hr12 =>
        intro wS hSw
        (try dsimp only at hSw)
        go_simp
        try with_reducible rfl
      case rr12 =>
      simp only [Act.put, List.setIfInBounds_toArray, List.set_cons_zero, List.set_cons_succ]
      refine wpAnyH_take (i := 3) (oi := { dst := some 73, op := Go.Op.move (Go.Operand.tmp 11), type := 4, pos := "l03_write.go:214", after := #[{ on := 2, ground := Go.Ground.guard }], guard := some (2, true) }) (v := ?vr13) rfl (by kernel_rfl) (by kernel_rfl) (by kernel_rfl) (fun _ _ _ h => h) (Or.inl ⟨by rfl, ?hr13⟩) hHeld ?rr13
      case hr13 =>
        intro wS hSw
        (try dsimp only at hSw)
        go_simp
        try with_reducible rfl
      case rr13 =>
      simp only [Act.put, List.setIfInBounds_toArray, List.set_cons_zero, List.set_cons_succ]
      refine wpAnyH_take (i := 4) (oi := { dst := some 74, op := Go.Op.pick (Go.Operand.tmp 72) (Go.Operand.tmp 73) (Go.Operand.const (Go.Value.bool false)), type := 4, pos := "l03_write.go:214", after := #[{ on := 2, ground := Go.Ground.data }, { on := 3, ground := Go.Ground.data }], guard := none }) (v := ?vr14) rfl (by kernel_rfl) (by kernel_rfl) (by kernel_rfl) (fun _ _ _ h => h) (Or.inl ⟨by rfl, ?hr14⟩) hHeld ?rr14
      case hr14 =>
        intro wS hSw
        (try dsimp only at hSw)
        go_simp
        try with_reducible rfl
      case rr14 =>
      simp only [Act.put, List.setIfInBounds_toArray, List.set_cons_zero, List.set_cons_succ]
      refine wpAnyH_take (i := 5) (oi := { dst := some 75, op := Go.Op.move (Go.Operand.tmp 74), type := 4, pos := "l03_write.go:214", after := #[{ on := 4, ground := Go.Ground.data }, { on := 2, ground := Go.Ground.chain }], guard := none }) (v := ?vr15) rfl (by kernel_rfl) (by kernel_rfl) (by kernel_rfl) (fun _ _ _ h => h) (Or.inl ⟨by rfl, ?hr15⟩) hHeld ?rr15
      case hr15 =>
        intro wS hSw
        (try dsimp only at hSw)
        go_simp
        try with_reducible rfl
      case rr15 =>
      simp only [Act.put, List.setIfInBounds_toArray, List.set_cons_zero, List.set_cons_succ]
      refine wpAnyH_take (i := 6) (oi := { dst := some 76, op := Go.Op.move (Go.Operand.tmp 13), type := 4, pos := "l03_write.go:214", after := #[{ on := 5, ground := Go.Ground.guard }], guard := some (5, true) }) (v := undef) rfl (by kernel_rfl) (by kernel_rfl) (by kernel_rfl) (fun _ _ _ h => h) (Or.inr ⟨by rfl, rfl⟩) hHeld ?_
      simp only [Act.put, List.setIfInBounds_toArray, List.set_cons_zero, List.set_cons_succ]
      refine wpAnyH_take (i := 7) (oi := { dst := some 77, op := Go.Op.pick (Go.Operand.tmp 75) (Go.Operand.tmp 76) (Go.Operand.const (Go.Value.bool false)), type := 4, pos := "l03_write.go:214", after := #[{ on := 5, ground := Go.Ground.data }, { on := 6, ground := Go.Ground.data }], guard := none }) (v := ?vr17) rfl (by kernel_rfl) (by kernel_rfl) (by kernel_rfl) (fun _ _ _ h => h) (Or.inl ⟨by rfl, ?hr17⟩) hHeld ?rr17
      case hr17 =>
        intro wS hSw
        (try dsimp only at hSw)
        go_simp
        try with_reducible rfl
      case rr17 =>
      simp only [Act.put, List.setIfInBounds_toArray, List.set_cons_zero, List.set_cons_succ]
      refine wpAnyH_take (i := 8) (oi := { dst := some 78, op := Go.Op.move (Go.Operand.tmp 77), type := 4, pos := "l03_write.go:214", after := #[{ on := 7, ground := Go.Ground.data }, { on := 5, ground := Go.Ground.chain }], guard := none }) (v := ?vr18) rfl (by kernel_rfl) (by kernel_rfl) (by kernel_rfl) (fun _ _ _ h => h) (Or.inl ⟨by rfl, ?hr18⟩) hHeld ?rr18
      case hr18 =>
        intro wS hSw
        (try dsimp only at hSw)
        go_simp
        try with_reducible rfl
      case rr18 =>
      simp only [Act.put, List.setIfInBounds_toArray, List.set_cons_zero, List.set_cons_succ]
      refine wpAnyH_take (i := 9) (oi := { dst := some 79, op := Go.Op.load 29 (Go.Operand.tmp 14), type := 29, pos := "l03_write.go:214", after := #[{ on := 8, ground := Go.Ground.guard }], guard := some (8, true) }) (v := undef) rfl (by kernel_rfl) (by kernel_rfl) (by kernel_rfl) (fun _ _ _ h => h) (Or.inr ⟨by rfl, rfl⟩) hHeld ?_
      simp only [Act.put, List.setIfInBounds_toArray, List.set_cons_zero, List.set_cons_succ]
      refine wpAnyH_take (i := 10) (oi := { dst := some 80, op := Go.Op.call { callee := Go.Callee.value (Go.Operand.func 52), args := #[Go.Operand.tmp 79], argTypes := #[29] }, type := 2, pos := "l03_write.go:214", after := #[{ on := 9, ground := Go.Ground.data }, { on := 8, ground := Go.Ground.chain }, { on := 8, ground := Go.Ground.guard }], guard := some (8, true) }) (v := undef) rfl (by kernel_rfl) (by kernel_rfl) (by kernel_rfl) (fun _ _ _ h => h) (Or.inr ⟨by rfl, rfl⟩) hHeld ?_
      simp only [Act.put, List.setIfInBounds_toArray, List.set_cons_zero, List.set_cons_succ]
      refine wpAnyH_take (i := 11) (oi := { dst := some 81, op := Go.Op.binOp Go.BinOp.eql 2 (Go.Operand.tmp 80) (Go.Operand.const (Go.Value.int Go.IntKind.i64 0)) 2, type := 4, pos := "l03_write.go:214", after := #[{ on := 10, ground := Go.Ground.data }, { on := 8, ground := Go.Ground.guard }, { on := 13, ground := Go.Ground.gcOnly Go.Departure.lateStores }], guard := some (8, true) }) (v := undef) rfl (by kernel_rfl) (by kernel_rfl) (by kernel_rfl) (fun _ _ _ h => h) (Or.inr ⟨by rfl, rfl⟩) hHeld ?_
      simp only [Act.put, List.setIfInBounds_toArray, List.set_cons_zero, List.set_cons_succ]
      refine wpAnyH_take (i := 12) (oi := { dst := some 82, op := Go.Op.pick (Go.Operand.tmp 78) (Go.Operand.tmp 81) (Go.Operand.const (Go.Value.bool false)), type := 4, pos := "l03_write.go:214", after := #[{ on := 8, ground := Go.Ground.data }, { on := 11, ground := Go.Ground.data }, { on := 13, ground := Go.Ground.gcOnly Go.Departure.lateStores }], guard := none }) (v := ?vr112) rfl (by kernel_rfl) (by kernel_rfl) (by kernel_rfl) (fun _ _ _ h => h) (Or.inl ⟨by rfl, ?hr112⟩) hHeld ?rr112
      case hr112 =>
        intro wS hSw
        (try dsimp only at hSw)
        go_simp
        try with_reducible rfl
      case rr112 =>
      simp only [Act.put, List.setIfInBounds_toArray, List.set_cons_zero, List.set_cons_succ]
      refine wpAnyH_ready (rs := [13]) (by kernel_rfl) (by simp) ?_
      refine AllReadyH.cons (o := { dst := none, op := Go.Op.store 29 (Go.Operand.tmp 2) (Go.Operand.tmp 70), type := 0, pos := "l03_write.go:214", after := #[{ on := 0, ground := Go.Ground.data }, { on := 10, ground := Go.Ground.chain }, { on := 0, ground := Go.Ground.phase }, { on := 1, ground := Go.Ground.textOnly Go.Departure.lateStores }, { on := 2, ground := Go.Ground.textOnly Go.Departure.lateStores }, { on := 3, ground := Go.Ground.textOnly Go.Departure.lateStores }, { on := 4, ground := Go.Ground.textOnly Go.Departure.lateStores }, { on := 5, ground := Go.Ground.textOnly Go.Departure.lateStores }, { on := 6, ground := Go.Ground.textOnly Go.Departure.lateStores }, { on := 7, ground := Go.Ground.textOnly Go.Departure.lateStores }, { on := 8, ground := Go.Ground.textOnly Go.Departure.lateStores }, { on := 9, ground := Go.Ground.textOnly Go.Departure.lateStores }, { on := 10, ground := Go.Ground.textOnly Go.Departure.lateStoresUnsure }, { on := 11, ground := Go.Ground.textOnly Go.Departure.lateStores }, { on := 12, ground := Go.Ground.textOnly Go.Departure.lateStores }], guard := none }) rfl (fun K hK => ?_) AllReadyH.nil
      have z0 : wT.cell? ⟨w.heap.size, 0, none⟩ = some (.int .i64 0) := (hRT).at 0 _ rfl
      have z1 : wT.cell? ⟨w.heap.size, 1, none⟩ = some (.int .i64 0) := (hRT).at 1 _ rfl
      have z2 : wT.cell? ⟨w.heap.size, 2, none⟩ = some (.slice none 0 0) := (hRT).at 2 _ rfl
      have z3 : wT.cell? ⟨w.heap.size, 3, none⟩ = some (.int .i64 0) := (hRT).at 3 _ rfl
      have z4 : wT.cell? ⟨w.heap.size, 4, none⟩ = some (.int .i64 0) := (hRT).at 4 _ rfl
      have f0 := hRT.soft 0
      have f1 := hRT.soft 1
      have f2 := hRT.soft 2
      have f3 := hRT.soft 3
      have f4 := hRT.soft 4
      have lR := hRT.lt
      go_simp
      refine hK.out _ _ (((((hHeld.setCell ⟨w.heap.size, 0, none⟩ _ rfl).setCell ⟨w.heap.size, 1, none⟩ _ rfl).setCell ⟨w.heap.size, 2, none⟩ _ rfl).setCell ⟨w.heap.size, 3, none⟩ _ rfl).setCell ⟨w.heap.size, 4, none⟩ _ rfl) (fun hHeld => ?_)
      clear hK K
      try simp only [Act.put, List.setIfInBounds_toArray, List.set_cons_zero, List.set_cons_succ]
      refine wpAnyH_take (i := 14) (oi := { dst := some 3, op := Go.Op.assign (Go.Operand.tmp 82), type := 4, pos := "l03_write.go:214", after := #[{ on := 12, ground := Go.Ground.data }, { on := 13, ground := Go.Ground.chain }, { on := 0, ground := Go.Ground.phase }, { on := 1, ground := Go.Ground.phase }, { on := 2, ground := Go.Ground.phase }, { on := 3, ground := Go.Ground.phase }, { on := 4, ground := Go.Ground.phase }, { on := 5, ground := Go.Ground.phase }, { on := 6, ground := Go.Ground.phase }, { on := 7, ground := Go.Ground.phase }, { on := 8, ground := Go.Ground.phase }, { on := 9, ground := Go.Ground.phase }, { on := 10, ground := Go.Ground.phase }, { on := 11, ground := Go.Ground.phase }, { on := 12, ground := Go.Ground.phase }, { on := 13, ground := Go.Ground.phase }], guard := none }) (v := ?vr114) rfl (by kernel_rfl) (by kernel_rfl) (by kernel_rfl) (fun _ _ _ h => h) (Or.inl ⟨by rfl, ?hr114⟩) hHeld ?rr114
      case hr114 =>
        intro wS hSw
        (try dsimp only at hSw)
        go_simp
        try with_reducible rfl
      case rr114 =>
      simp only [Act.put, List.setIfInBounds_toArray, List.set_cons_zero, List.set_cons_succ]
      refine wpAnyH_done (by kernel_rfl) ?_ _
      refine NoPanic.normal ?_
      have hE : Ext (fun c => c = w.heap.size) wT (((((wT.setCell ⟨w.heap.size, 0, none⟩ (.int .i64 1)).setCell ⟨w.heap.size, 1, none⟩ (.int .i64 n1)).setCell ⟨w.heap.size, 2, none⟩ (.slice ax 3 cx)).setCell ⟨w.heap.size, 3, none⟩ (.int .i64 n2)).setCell ⟨w.heap.size, 4, none⟩ (.int .i64 n3)) := ((((((Ext.refl (fun c => c = w.heap.size) _).setCell ⟨w.heap.size, 0, none⟩ _ rfl).setCell ⟨w.heap.size, 1, none⟩ _ rfl).setCell ⟨w.heap.size, 2, none⟩ _ rfl).setCell ⟨w.heap.size, 3, none⟩ _ rfl).setCell ⟨w.heap.size, 4, none⟩ _ rfl)
      have hRZ := (((((hRT.set 0 (.int .i64 1)).set 1 (.int .i64 n1)).set 2 (.slice ax 3 cx)).set 3 (.int .i64 n2)).set 4 (.int .i64 n3))
      have z0 : (((((wT.setCell ⟨w.heap.size, 0, none⟩ (.int .i64 1)).setCell ⟨w.heap.size, 1, none⟩ (.int .i64 n1)).setCell ⟨w.heap.size, 2, none⟩ (.slice ax 3 cx)).setCell ⟨w.heap.size, 3, none⟩ (.int .i64 n2)).setCell ⟨w.heap.size, 4, none⟩ (.int .i64 n3)).cell? ⟨w.heap.size, 0, none⟩ = some (.int .i64 1) := hRZ.at 0 _ rfl
      have z1 : (((((wT.setCell ⟨w.heap.size, 0, none⟩ (.int .i64 1)).setCell ⟨w.heap.size, 1, none⟩ (.int .i64 n1)).setCell ⟨w.heap.size, 2, none⟩ (.slice ax 3 cx)).setCell ⟨w.heap.size, 3, none⟩ (.int .i64 n2)).setCell ⟨w.heap.size, 4, none⟩ (.int .i64 n3)).cell? ⟨w.heap.size, 1, none⟩ = some (.int .i64 n1) := hRZ.at 1 _ rfl
      have z2 : (((((wT.setCell ⟨w.heap.size, 0, none⟩ (.int .i64 1)).setCell ⟨w.heap.size, 1, none⟩ (.int .i64 n1)).setCell ⟨w.heap.size, 2, none⟩ (.slice ax 3 cx)).setCell ⟨w.heap.size, 3, none⟩ (.int .i64 n2)).setCell ⟨w.heap.size, 4, none⟩ (.int .i64 n3)).cell? ⟨w.heap.size, 2, none⟩ = some (.slice ax 3 cx) := hRZ.at 2 _ rfl
      have z3 : (((((wT.setCell ⟨w.heap.size, 0, none⟩ (.int .i64 1)).setCell ⟨w.heap.size, 1, none⟩ (.int .i64 n1)).setCell ⟨w.heap.size, 2, none⟩ (.slice ax 3 cx)).setCell ⟨w.heap.size, 3, none⟩ (.int .i64 n2)).setCell ⟨w.heap.size, 4, none⟩ (.int .i64 n3)).cell? ⟨w.heap.size, 3, none⟩ = some (.int .i64 n2) := hRZ.at 3 _ rfl
      have z4 : (((((wT.setCell ⟨w.heap.size, 0, none⟩ (.int .i64 1)).setCell ⟨w.heap.size, 1, none⟩ (.int .i64 n1)).setCell ⟨w.heap.size, 2, none⟩ (.slice ax 3 cx)).setCell ⟨w.heap.size, 3, none⟩ (.int .i64 n2)).setCell ⟨w.heap.size, 4, none⟩ (.int .i64 n3)).cell? ⟨w.heap.size, 4, none⟩ = some (.int .i64 n3) := hRZ.at 4 _ rfl
      have HBZ : Hid (Below w.heap.size w (((((wT.setCell ⟨w.heap.size, 0, none⟩ (.int .i64 1)).setCell ⟨w.heap.size, 1, none⟩ (.int .i64 n1)).setCell ⟨w.heap.size, 2, none⟩ (.slice ax 3 cx)).setCell ⟨w.heap.size, 3, none⟩ (.int .i64 n2)).setCell ⟨w.heap.size, 4, none⟩ (.int .i64 n3))) := (unhide HBT).trans (hE.below (by have := (unhide HBT).size; omega) (fun k hk e => by omega))
      clear hHeld hE hRZ hRT
      generalize (((((wT.setCell ⟨w.heap.size, 0, none⟩ (.int .i64 1)).setCell ⟨w.heap.size, 1, none⟩ (.int .i64 n1)).setCell ⟨w.heap.size, 2, none⟩ (.slice ax 3 cx)).setCell ⟨w.heap.size, 3, none⟩ (.int .i64 n2)).setCell ⟨w.heap.size, 4, none⟩ (.int .i64 n3)) = wZ at *
      go_wp2_with fail
      refine bodyPost_ret (v := .tuple #[.agg #[.int .i64 1, .int .i64 n1, .slice ax 3 cx, .int .i64 n2, .int .i64 n3], .bool false]) (by simp [results, Tryd.results27, go_sem, z0, z1, z2, z3, z4]) rfl ?_
      exact ⟨_, _, _, _, _, _, _, false, rfl, (fun h => by cases h), fun _ => by rw [unhide HL]; simp, unhide HBZ⟩
    | true =>
      cases o3 with
      | false =>
        have hRT : Box 0 #[.int .i64 0, .int .i64 0, .slice none 0 0, .int .i64 0, .int .i64 0] 29 w6.drew w.heap.size := hR
        have HBT := hide (unhide HB6).drew
        refine wp_region_noPanic ?_
        refine wp_region_held_drew (S := fun w' => Ext (fun c => c = w.heap.size) w6 w') (by kernel_rfl) ⟨rfl, rfl, rfl, Nat.le_refl _, fun _ _ _ => rfl⟩ (fun hHeld => ?_)
        generalize w6.drew = wT at hHeld hRT HBT ⊢
        refine wpAnyH_take (i := 0) (oi := { dst := some 70, op := Go.Op.load 29 (Go.Operand.tmp 14), type := 29, pos := "l03_write.go:214", after := #[], guard := none }) (v := ?vr20) rfl (by kernel_rfl) (by kernel_rfl) (by kernel_rfl) (fun _ _ _ h => h) (Or.inl ⟨by rfl, ?hr20⟩) hHeld ?rr20
        case hr20 =>
          intro wS hSw
          have y0 : wS.cell? ⟨pQ, 0, none⟩ = some (.int .i64 1) := (hQ.ext hSw (by omega)).at 0 _ rfl
          have y1 : wS.cell? ⟨pQ, 1, none⟩ = some (.int .i64 n1) := (hQ.ext hSw (by omega)).at 1 _ rfl
          have y2 : wS.cell? ⟨pQ, 2, none⟩ = some (.slice ax 3 cx) := (hQ.ext hSw (by omega)).at 2 _ rfl
          have y3 : wS.cell? ⟨pQ, 3, none⟩ = some (.int .i64 n2) := (hQ.ext hSw (by omega)).at 3 _ rfl
          have y4 : wS.cell? ⟨pQ, 4, none⟩ = some (.int .i64 n3) := (hQ.ext hSw (by omega)).at 4 _ rfl
          clear hSw
          (try dsimp only at hSw)
          go_simp
          try with_reducible rfl
        case rr20 =>
        simp only [Act.put, List.setIfInBounds_toArray, List.set_cons_zero, List.set_cons_succ]
        refine wpAnyH_take (i := 1) (oi := { dst := some 71, op := Go.Op.move (Go.Operand.tmp 9), type := 4, pos := "l03_write.go:214", after := #[], guard := none }) (v := ?vr21) rfl (by kernel_rfl) (by kernel_rfl) (by kernel_rfl) (fun _ _ _ h => h) (Or.inl ⟨by rfl, ?hr21⟩) hHeld ?rr21
        case hr21 =>
          intro wS hSw
          (try dsimp only at hSw)
          go_simp
          try with_reducible rfl
        case rr21 =>
        simp only [Act.put, List.setIfInBounds_toArray, List.set_cons_zero, List.set_cons_succ]
        refine wpAnyH_take (i := 2) (oi := { dst := some 72, op := Go.Op.move (Go.Operand.tmp 71), type := 4, pos := "l03_write.go:214", after := #[{ on := 1, ground := Go.Ground.data }], guard := none }) (v := ?vr22) rfl (by kernel_rfl) (by kernel_rfl) (by kernel_rfl) (fun _ _ _ h => h) (Or.inl ⟨by rfl, ?hr22⟩) hHeld ?rr22
        case hr22 =>
          intro wS hSw
          (try dsimp only at hSw)
          go_simp
          try with_reducible rfl
        case rr22 =>
        simp only [Act.put, List.setIfInBounds_toArray, List.set_cons_zero, List.set_cons_succ]
        refine wpAnyH_take (i := 3) (oi := { dst := some 73, op := Go.Op.move (Go.Operand.tmp 11), type := 4, pos := "l03_write.go:214", after := #[{ on := 2, ground := Go.Ground.guard }], guard := some (2, true) }) (v := ?vr23) rfl (by kernel_rfl) (by kernel_rfl) (by kernel_rfl) (fun _ _ _ h => h) (Or.inl ⟨by rfl, ?hr23⟩) hHeld ?rr23
        case hr23 =>
          intro wS hSw
          (try dsimp only at hSw)
          go_simp
          try with_reducible rfl
        case rr23 =>
        simp only [Act.put, List.setIfInBounds_toArray, List.set_cons_zero, List.set_cons_succ]
        refine wpAnyH_take (i := 4) (oi := { dst := some 74, op := Go.Op.pick (Go.Operand.tmp 72) (Go.Operand.tmp 73) (Go.Operand.const (Go.Value.bool false)), type := 4, pos := "l03_write.go:214", after := #[{ on := 2, ground := Go.Ground.data }, { on := 3, ground := Go.Ground.data }], guard := none }) (v := ?vr24) rfl (by kernel_rfl) (by kernel_rfl) (by kernel_rfl) (fun _ _ _ h => h) (Or.inl ⟨by rfl, ?hr24⟩) hHeld ?rr24
        case hr24 =>
          intro wS hSw
          (try dsimp only at hSw)
          go_simp
          try with_reducible rfl
        case rr24 =>
        simp only [Act.put, List.setIfInBounds_toArray, List.set_cons_zero, List.set_cons_succ]
        refine wpAnyH_take (i := 5) (oi := { dst := some 75, op := Go.Op.move (Go.Operand.tmp 74), type := 4, pos := "l03_write.go:214", after := #[{ on := 4, ground := Go.Ground.data }, { on := 2, ground := Go.Ground.chain }], guard := none }) (v := ?vr25) rfl (by kernel_rfl) (by kernel_rfl) (by kernel_rfl) (fun _ _ _ h => h) (Or.inl ⟨by rfl, ?hr25⟩) hHeld ?rr25
        case hr25 =>
          intro wS hSw
          (try dsimp only at hSw)
          go_simp
          try with_reducible rfl
        case rr25 =>
        simp only [Act.put, List.setIfInBounds_toArray, List.set_cons_zero, List.set_cons_succ]
        refine wpAnyH_take (i := 6) (oi := { dst := some 76, op := Go.Op.move (Go.Operand.tmp 13), type := 4, pos := "l03_write.go:214", after := #[{ on := 5, ground := Go.Ground.guard }], guard := some (5, true) }) (v := ?vr26) rfl (by kernel_rfl) (by kernel_rfl) (by kernel_rfl) (fun _ _ _ h => h) (Or.inl ⟨by rfl, ?hr26⟩) hHeld ?rr26
        case hr26 =>
          intro wS hSw
          (try dsimp only at hSw)
          go_simp
          try with_reducible rfl
        case rr26 =>
        simp only [Act.put, List.setIfInBounds_toArray, List.set_cons_zero, List.set_cons_succ]
        refine wpAnyH_take (i := 7) (oi := { dst := some 77, op := Go.Op.pick (Go.Operand.tmp 75) (Go.Operand.tmp 76) (Go.Operand.const (Go.Value.bool false)), type := 4, pos := "l03_write.go:214", after := #[{ on := 5, ground := Go.Ground.data }, { on := 6, ground := Go.Ground.data }], guard := none }) (v := ?vr27) rfl (by kernel_rfl) (by kernel_rfl) (by kernel_rfl) (fun _ _ _ h => h) (Or.inl ⟨by rfl, ?hr27⟩) hHeld ?rr27
        case hr27 =>
          intro wS hSw
          (try dsimp only at hSw)
          go_simp
          try with_reducible rfl
        case rr27 =>
        simp only [Act.put, List.setIfInBounds_toArray, List.set_cons_zero, List.set_cons_succ]
        refine wpAnyH_take (i := 8) (oi := { dst := some 78, op := Go.Op.move (Go.Operand.tmp 77), type := 4, pos := "l03_write.go:214", after := #[{ on := 7, ground := Go.Ground.data }, { on := 5, ground := Go.Ground.chain }], guard := none }) (v := ?vr28) rfl (by kernel_rfl) (by kernel_rfl) (by kernel_rfl) (fun _ _ _ h => h) (Or.inl ⟨by rfl, ?hr28⟩) hHeld ?rr28
        case hr28 =>
          intro wS hSw
          (try dsimp only at hSw)
          go_simp
          try with_reducible rfl
        case rr28 =>
        simp only [Act.put, List.setIfInBounds_toArray, List.set_cons_zero, List.set_cons_succ]
        refine wpAnyH_take (i := 9) (oi := { dst := some 79, op := Go.Op.load 29 (Go.Operand.tmp 14), type := 29, pos := "l03_write.go:214", after := #[{ on := 8, ground := Go.Ground.guard }], guard := some (8, true) }) (v := undef) rfl (by kernel_rfl) (by kernel_rfl) (by kernel_rfl) (fun _ _ _ h => h) (Or.inr ⟨by rfl, rfl⟩) hHeld ?_
        simp only [Act.put, List.setIfInBounds_toArray, List.set_cons_zero, List.set_cons_succ]
        refine wpAnyH_take (i := 10) (oi := { dst := some 80, op := Go.Op.call { callee := Go.Callee.value (Go.Operand.func 52), args := #[Go.Operand.tmp 79], argTypes := #[29] }, type := 2, pos := "l03_write.go:214", after := #[{ on := 9, ground := Go.Ground.data }, { on := 8, ground := Go.Ground.chain }, { on := 8, ground := Go.Ground.guard }], guard := some (8, true) }) (v := undef) rfl (by kernel_rfl) (by kernel_rfl) (by kernel_rfl) (fun _ _ _ h => h) (Or.inr ⟨by rfl, rfl⟩) hHeld ?_
        simp only [Act.put, List.setIfInBounds_toArray, List.set_cons_zero, List.set_cons_succ]
        refine wpAnyH_take (i := 11) (oi := { dst := some 81, op := Go.Op.binOp Go.BinOp.eql 2 (Go.Operand.tmp 80) (Go.Operand.const (Go.Value.int Go.IntKind.i64 0)) 2, type := 4, pos := "l03_write.go:214", after := #[{ on := 10, ground := Go.Ground.data }, { on := 8, ground := Go.Ground.guard }, { on := 13, ground := Go.Ground.gcOnly Go.Departure.lateStores }], guard := some (8, true) }) (v := undef) rfl (by kernel_rfl) (by kernel_rfl) (by kernel_rfl) (fun _ _ _ h => h) (Or.inr ⟨by rfl, rfl⟩) hHeld ?_
        simp only [Act.put, List.setIfInBounds_toArray, List.set_cons_zero, List.set_cons_succ]
        refine wpAnyH_take (i := 12) (oi := { dst := some 82, op := Go.Op.pick (Go.Operand.tmp 78) (Go.Operand.tmp 81) (Go.Operand.const (Go.Value.bool false)), type := 4, pos := "l03_write.go:214", after := #[{ on := 8, ground := Go.Ground.data }, { on := 11, ground := Go.Ground.data }, { on := 13, ground := Go.Ground.gcOnly Go.Departure.lateStores }], guard := none }) (v := ?vr212) rfl (by kernel_rfl) (by kernel_rfl) (by kernel_rfl) (fun _ _ _ h => h) (Or.inl ⟨by rfl, ?hr212⟩) hHeld ?rr212
        case hr212 =>
          intro wS hSw
          (try dsimp only at hSw)
          go_simp
          try with_reducible rfl
        case rr212 =>
        simp only [Act.put, List.setIfInBounds_toArray, List.set_cons_zero, List.set_cons_succ]
        refine wpAnyH_ready (rs := [13]) (by kernel_rfl) (by simp) ?_
        refine AllReadyH.cons (o := { dst := none, op := Go.Op.store 29 (Go.Operand.tmp 2) (Go.Operand.tmp 70), type := 0, pos := "l03_write.go:214", after := #[{ on := 0, ground := Go.Ground.data }, { on := 10, ground := Go.Ground.chain }, { on := 0, ground := Go.Ground.phase }, { on := 1, ground := Go.Ground.textOnly Go.Departure.lateStores }, { on := 2, ground := Go.Ground.textOnly Go.Departure.lateStores }, { on := 3, ground := Go.Ground.textOnly Go.Departure.lateStores }, { on := 4, ground := Go.Ground.textOnly Go.Departure.lateStores }, { on := 5, ground := Go.Ground.textOnly Go.Departure.lateStores }, { on := 6, ground := Go.Ground.textOnly Go.Departure.lateStores }, { on := 7, ground := Go.Ground.textOnly Go.Departure.lateStores }, { on := 8, ground := Go.Ground.textOnly Go.Departure.lateStores }, { on := 9, ground := Go.Ground.textOnly Go.Departure.lateStores }, { on := 10, ground := Go.Ground.textOnly Go.Departure.lateStoresUnsure }, { on := 11, ground := Go.Ground.textOnly Go.Departure.lateStores }, { on := 12, ground := Go.Ground.textOnly Go.Departure.lateStores }], guard := none }) rfl (fun K hK => ?_) AllReadyH.nil
        have z0 : wT.cell? ⟨w.heap.size, 0, none⟩ = some (.int .i64 0) := (hRT).at 0 _ rfl
        have z1 : wT.cell? ⟨w.heap.size, 1, none⟩ = some (.int .i64 0) := (hRT).at 1 _ rfl
        have z2 : wT.cell? ⟨w.heap.size, 2, none⟩ = some (.slice none 0 0) := (hRT).at 2 _ rfl
        have z3 : wT.cell? ⟨w.heap.size, 3, none⟩ = some (.int .i64 0) := (hRT).at 3 _ rfl
        have z4 : wT.cell? ⟨w.heap.size, 4, none⟩ = some (.int .i64 0) := (hRT).at 4 _ rfl
        have f0 := hRT.soft 0
        have f1 := hRT.soft 1
        have f2 := hRT.soft 2
        have f3 := hRT.soft 3
        have f4 := hRT.soft 4
        have lR := hRT.lt
        go_simp
        refine hK.out _ _ (((((hHeld.setCell ⟨w.heap.size, 0, none⟩ _ rfl).setCell ⟨w.heap.size, 1, none⟩ _ rfl).setCell ⟨w.heap.size, 2, none⟩ _ rfl).setCell ⟨w.heap.size, 3, none⟩ _ rfl).setCell ⟨w.heap.size, 4, none⟩ _ rfl) (fun hHeld => ?_)
        clear hK K
        try simp only [Act.put, List.setIfInBounds_toArray, List.set_cons_zero, List.set_cons_succ]
        refine wpAnyH_take (i := 14) (oi := { dst := some 3, op := Go.Op.assign (Go.Operand.tmp 82), type := 4, pos := "l03_write.go:214", after := #[{ on := 12, ground := Go.Ground.data }, { on := 13, ground := Go.Ground.chain }, { on := 0, ground := Go.Ground.phase }, { on := 1, ground := Go.Ground.phase }, { on := 2, ground := Go.Ground.phase }, { on := 3, ground := Go.Ground.phase }, { on := 4, ground := Go.Ground.phase }, { on := 5, ground := Go.Ground.phase }, { on := 6, ground := Go.Ground.phase }, { on := 7, ground := Go.Ground.phase }, { on := 8, ground := Go.Ground.phase }, { on := 9, ground := Go.Ground.phase }, { on := 10, ground := Go.Ground.phase }, { on := 11, ground := Go.Ground.phase }, { on := 12, ground := Go.Ground.phase }, { on := 13, ground := Go.Ground.phase }], guard := none }) (v := ?vr214) rfl (by kernel_rfl) (by kernel_rfl) (by kernel_rfl) (fun _ _ _ h => h) (Or.inl ⟨by rfl, ?hr214⟩) hHeld ?rr214
        case hr214 =>
          intro wS hSw
          (try dsimp only at hSw)
          go_simp
          try with_reducible rfl
        case rr214 =>
        simp only [Act.put, List.setIfInBounds_toArray, List.set_cons_zero, List.set_cons_succ]
        refine wpAnyH_done (by kernel_rfl) ?_ _
        refine NoPanic.normal ?_
        have hE : Ext (fun c => c = w.heap.size) wT (((((wT.setCell ⟨w.heap.size, 0, none⟩ (.int .i64 1)).setCell ⟨w.heap.size, 1, none⟩ (.int .i64 n1)).setCell ⟨w.heap.size, 2, none⟩ (.slice ax 3 cx)).setCell ⟨w.heap.size, 3, none⟩ (.int .i64 n2)).setCell ⟨w.heap.size, 4, none⟩ (.int .i64 n3)) := ((((((Ext.refl (fun c => c = w.heap.size) _).setCell ⟨w.heap.size, 0, none⟩ _ rfl).setCell ⟨w.heap.size, 1, none⟩ _ rfl).setCell ⟨w.heap.size, 2, none⟩ _ rfl).setCell ⟨w.heap.size, 3, none⟩ _ rfl).setCell ⟨w.heap.size, 4, none⟩ _ rfl)
        have hRZ := (((((hRT.set 0 (.int .i64 1)).set 1 (.int .i64 n1)).set 2 (.slice ax 3 cx)).set 3 (.int .i64 n2)).set 4 (.int .i64 n3))
        have z0 : (((((wT.setCell ⟨w.heap.size, 0, none⟩ (.int .i64 1)).setCell ⟨w.heap.size, 1, none⟩ (.int .i64 n1)).setCell ⟨w.heap.size, 2, none⟩ (.slice ax 3 cx)).setCell ⟨w.heap.size, 3, none⟩ (.int .i64 n2)).setCell ⟨w.heap.size, 4, none⟩ (.int .i64 n3)).cell? ⟨w.heap.size, 0, none⟩ = some (.int .i64 1) := hRZ.at 0 _ rfl
        have z1 : (((((wT.setCell ⟨w.heap.size, 0, none⟩ (.int .i64 1)).setCell ⟨w.heap.size, 1, none⟩ (.int .i64 n1)).setCell ⟨w.heap.size, 2, none⟩ (.slice ax 3 cx)).setCell ⟨w.heap.size, 3, none⟩ (.int .i64 n2)).setCell ⟨w.heap.size, 4, none⟩ (.int .i64 n3)).cell? ⟨w.heap.size, 1, none⟩ = some (.int .i64 n1) := hRZ.at 1 _ rfl
        have z2 : (((((wT.setCell ⟨w.heap.size, 0, none⟩ (.int .i64 1)).setCell ⟨w.heap.size, 1, none⟩ (.int .i64 n1)).setCell ⟨w.heap.size, 2, none⟩ (.slice ax 3 cx)).setCell ⟨w.heap.size, 3, none⟩ (.int .i64 n2)).setCell ⟨w.heap.size, 4, none⟩ (.int .i64 n3)).cell? ⟨w.heap.size, 2, none⟩ = some (.slice ax 3 cx) := hRZ.at 2 _ rfl
        have z3 : (((((wT.setCell ⟨w.heap.size, 0, none⟩ (.int .i64 1)).setCell ⟨w.heap.size, 1, none⟩ (.int .i64 n1)).setCell ⟨w.heap.size, 2, none⟩ (.slice ax 3 cx)).setCell ⟨w.heap.size, 3, none⟩ (.int .i64 n2)).setCell ⟨w.heap.size, 4, none⟩ (.int .i64 n3)).cell? ⟨w.heap.size, 3, none⟩ = some (.int .i64 n2) := hRZ.at 3 _ rfl
        have z4 : (((((wT.setCell ⟨w.heap.size, 0, none⟩ (.int .i64 1)).setCell ⟨w.heap.size, 1, none⟩ (.int .i64 n1)).setCell ⟨w.heap.size, 2, none⟩ (.slice ax 3 cx)).setCell ⟨w.heap.size, 3, none⟩ (.int .i64 n2)).setCell ⟨w.heap.size, 4, none⟩ (.int .i64 n3)).cell? ⟨w.heap.size, 4, none⟩ = some (.int .i64 n3) := hRZ.at 4 _ rfl
        have HBZ : Hid (Below w.heap.size w (((((wT.setCell ⟨w.heap.size, 0, none⟩ (.int .i64 1)).setCell ⟨w.heap.size, 1, none⟩ (.int .i64 n1)).setCell ⟨w.heap.size, 2, none⟩ (.slice ax 3 cx)).setCell ⟨w.heap.size, 3, none⟩ (.int .i64 n2)).setCell ⟨w.heap.size, 4, none⟩ (.int .i64 n3))) := (unhide HBT).trans (hE.below (by have := (unhide HBT).size; omega) (fun k hk e => by omega))
        clear hHeld hE hRZ hRT
        generalize (((((wT.setCell ⟨w.heap.size, 0, none⟩ (.int .i64 1)).setCell ⟨w.heap.size, 1, none⟩ (.int .i64 n1)).setCell ⟨w.heap.size, 2, none⟩ (.slice ax 3 cx)).setCell ⟨w.heap.size, 3, none⟩ (.int .i64 n2)).setCell ⟨w.heap.size, 4, none⟩ (.int .i64 n3)) = wZ at *
        go_wp2_with fail
        refine bodyPost_ret (v := .tuple #[.agg #[.int .i64 1, .int .i64 n1, .slice ax 3 cx, .int .i64 n2, .int .i64 n3], .bool false]) (by simp [results, Tryd.results27, go_sem, z0, z1, z2, z3, z4]) rfl ?_
        exact ⟨_, _, _, _, _, _, _, false, rfl, (fun h => by cases h), fun _ => by rw [unhide HL]; simp, unhide HBZ⟩
      | true =>
        have hRT : Box 0 #[.int .i64 0, .int .i64 0, .slice none 0 0, .int .i64 0, .int .i64 0] 29 w6.drew w.heap.size := hR
        have HBT := hide (unhide HB6).drew
        have HVT := hide ((unhide HV).later (below_drawn (Below.refl _ _) 1))
        have hVD : (Lay.sl Lay.int).OwnIn w6.drew [.slice ax 3 cx] [p, q, r] (w.heap.size + 1) w6.drew.heap.size := unhide HVT
        clear HVT
        refine wp_region_noPanic ?_
        refine wp_region_held_drew (S := fun w' => Ext (fun c => c = w.heap.size) w6 w') (by kernel_rfl) ⟨rfl, rfl, rfl, Nat.le_refl _, fun _ _ _ => rfl⟩ (fun hHeld => ?_)
        generalize w6.drew = wT at hHeld hRT HBT hVD ⊢
        refine wpAnyH_take (i := 0) (oi := { dst := some 70, op := Go.Op.load 29 (Go.Operand.tmp 14), type := 29, pos := "l03_write.go:214", after := #[], guard := none }) (v := ?vr90) rfl (by kernel_rfl) (by kernel_rfl) (by kernel_rfl) (fun _ _ _ h => h) (Or.inl ⟨by rfl, ?hr90⟩) hHeld ?rr90
        case hr90 =>
          intro wS hSw
          have y0 : wS.cell? ⟨pQ, 0, none⟩ = some (.int .i64 1) := (hQ.ext hSw (by omega)).at 0 _ rfl
          have y1 : wS.cell? ⟨pQ, 1, none⟩ = some (.int .i64 n1) := (hQ.ext hSw (by omega)).at 1 _ rfl
          have y2 : wS.cell? ⟨pQ, 2, none⟩ = some (.slice ax 3 cx) := (hQ.ext hSw (by omega)).at 2 _ rfl
          have y3 : wS.cell? ⟨pQ, 3, none⟩ = some (.int .i64 n2) := (hQ.ext hSw (by omega)).at 3 _ rfl
          have y4 : wS.cell? ⟨pQ, 4, none⟩ = some (.int .i64 n3) := (hQ.ext hSw (by omega)).at 4 _ rfl
          clear hSw
          (try dsimp only at hSw)
          go_simp
          try with_reducible rfl
        case rr90 =>
        simp only [Act.put, List.setIfInBounds_toArray, List.set_cons_zero, List.set_cons_succ]
        refine wpAnyH_take (i := 1) (oi := { dst := some 71, op := Go.Op.move (Go.Operand.tmp 9), type := 4, pos := "l03_write.go:214", after := #[], guard := none }) (v := ?vr91) rfl (by kernel_rfl) (by kernel_rfl) (by kernel_rfl) (fun _ _ _ h => h) (Or.inl ⟨by rfl, ?hr91⟩) hHeld ?rr91
        case hr91 =>
          intro wS hSw
          (try dsimp only at hSw)
          go_simp
          try with_reducible rfl
        case rr91 =>
        simp only [Act.put, List.setIfInBounds_toArray, List.set_cons_zero, List.set_cons_succ]
        refine wpAnyH_take (i := 2) (oi := { dst := some 72, op := Go.Op.move (Go.Operand.tmp 71), type := 4, pos := "l03_write.go:214", after := #[{ on := 1, ground := Go.Ground.data }], guard := none }) (v := ?vr92) rfl (by kernel_rfl) (by kernel_rfl) (by kernel_rfl) (fun _ _ _ h => h) (Or.inl ⟨by rfl, ?hr92⟩) hHeld ?rr92
        case hr92 =>
          intro wS hSw
          (try dsimp only at hSw)
          go_simp
          try with_reducible rfl
        case rr92 =>
        simp only [Act.put, List.setIfInBounds_toArray, List.set_cons_zero, List.set_cons_succ]
        refine wpAnyH_take (i := 3) (oi := { dst := some 73, op := Go.Op.move (Go.Operand.tmp 11), type := 4, pos := "l03_write.go:214", after := #[{ on := 2, ground := Go.Ground.guard }], guard := some (2, true) }) (v := ?vr93) rfl (by kernel_rfl) (by kernel_rfl) (by kernel_rfl) (fun _ _ _ h => h) (Or.inl ⟨by rfl, ?hr93⟩) hHeld ?rr93
        case hr93 =>
          intro wS hSw
          (try dsimp only at hSw)
          go_simp
          try with_reducible rfl
        case rr93 =>
        simp only [Act.put, List.setIfInBounds_toArray, List.set_cons_zero, List.set_cons_succ]
        refine wpAnyH_take (i := 4) (oi := { dst := some 74, op := Go.Op.pick (Go.Operand.tmp 72) (Go.Operand.tmp 73) (Go.Operand.const (Go.Value.bool false)), type := 4, pos := "l03_write.go:214", after := #[{ on := 2, ground := Go.Ground.data }, { on := 3, ground := Go.Ground.data }], guard := none }) (v := ?vr94) rfl (by kernel_rfl) (by kernel_rfl) (by kernel_rfl) (fun _ _ _ h => h) (Or.inl ⟨by rfl, ?hr94⟩) hHeld ?rr94
        case hr94 =>
          intro wS hSw
          (try dsimp only at hSw)
          go_simp
          try with_reducible rfl
        case rr94 =>
        simp only [Act.put, List.setIfInBounds_toArray, List.set_cons_zero, List.set_cons_succ]
        refine wpAnyH_take (i := 5) (oi := { dst := some 75, op := Go.Op.move (Go.Operand.tmp 74), type := 4, pos := "l03_write.go:214", after := #[{ on := 4, ground := Go.Ground.data }, { on := 2, ground := Go.Ground.chain }], guard := none }) (v := ?vr95) rfl (by kernel_rfl) (by kernel_rfl) (by kernel_rfl) (fun _ _ _ h => h) (Or.inl ⟨by rfl, ?hr95⟩) hHeld ?rr95
        case hr95 =>
          intro wS hSw
          (try dsimp only at hSw)
          go_simp
          try with_reducible rfl
        case rr95 =>
        simp only [Act.put, List.setIfInBounds_toArray, List.set_cons_zero, List.set_cons_succ]
        refine wpAnyH_take (i := 6) (oi := { dst := some 76, op := Go.Op.move (Go.Operand.tmp 13), type := 4, pos := "l03_write.go:214", after := #[{ on := 5, ground := Go.Ground.guard }], guard := some (5, true) }) (v := ?vr96) rfl (by kernel_rfl) (by kernel_rfl) (by kernel_rfl) (fun _ _ _ h => h) (Or.inl ⟨by rfl, ?hr96⟩) hHeld ?rr96
        case hr96 =>
          intro wS hSw
          (try dsimp only at hSw)
          go_simp
          try with_reducible rfl
        case rr96 =>
        simp only [Act.put, List.setIfInBounds_toArray, List.set_cons_zero, List.set_cons_succ]
        refine wpAnyH_take (i := 7) (oi := { dst := some 77, op := Go.Op.pick (Go.Operand.tmp 75) (Go.Operand.tmp 76) (Go.Operand.const (Go.Value.bool false)), type := 4, pos := "l03_write.go:214", after := #[{ on := 5, ground := Go.Ground.data }, { on := 6, ground := Go.Ground.data }], guard := none }) (v := ?vr97) rfl (by kernel_rfl) (by kernel_rfl) (by kernel_rfl) (fun _ _ _ h => h) (Or.inl ⟨by rfl, ?hr97⟩) hHeld ?rr97
        case hr97 =>
          intro wS hSw
          (try dsimp only at hSw)
          go_simp
          try with_reducible rfl
        case rr97 =>
        simp only [Act.put, List.setIfInBounds_toArray, List.set_cons_zero, List.set_cons_succ]
        refine wpAnyH_take (i := 8) (oi := { dst := some 78, op := Go.Op.move (Go.Operand.tmp 77), type := 4, pos := "l03_write.go:214", after := #[{ on := 7, ground := Go.Ground.data }, { on := 5, ground := Go.Ground.chain }], guard := none }) (v := ?vr98) rfl (by kernel_rfl) (by kernel_rfl) (by kernel_rfl) (fun _ _ _ h => h) (Or.inl ⟨by rfl, ?hr98⟩) hHeld ?rr98
        case hr98 =>
          intro wS hSw
          (try dsimp only at hSw)
          go_simp
          try with_reducible rfl
        case rr98 =>
        simp only [Act.put, List.setIfInBounds_toArray, List.set_cons_zero, List.set_cons_succ]
        refine wpAnyH_take (i := 9) (oi := { dst := some 79, op := Go.Op.load 29 (Go.Operand.tmp 14), type := 29, pos := "l03_write.go:214", after := #[{ on := 8, ground := Go.Ground.guard }], guard := some (8, true) }) (v := ?vr99) rfl (by kernel_rfl) (by kernel_rfl) (by kernel_rfl) (fun _ _ _ h => h) (Or.inl ⟨by rfl, ?hr99⟩) hHeld ?rr99
        case hr99 =>
          intro wS hSw
          have y0 : wS.cell? ⟨pQ, 0, none⟩ = some (.int .i64 1) := (hQ.ext hSw (by omega)).at 0 _ rfl
          have y1 : wS.cell? ⟨pQ, 1, none⟩ = some (.int .i64 n1) := (hQ.ext hSw (by omega)).at 1 _ rfl
          have y2 : wS.cell? ⟨pQ, 2, none⟩ = some (.slice ax 3 cx) := (hQ.ext hSw (by omega)).at 2 _ rfl
          have y3 : wS.cell? ⟨pQ, 3, none⟩ = some (.int .i64 n2) := (hQ.ext hSw (by omega)).at 3 _ rfl
          have y4 : wS.cell? ⟨pQ, 4, none⟩ = some (.int .i64 n3) := (hQ.ext hSw (by omega)).at 4 _ rfl
          clear hSw
          (try dsimp only at hSw)
          go_simp
          try with_reducible rfl
        case rr99 =>
        simp only [Act.put, List.setIfInBounds_toArray, List.set_cons_zero, List.set_cons_succ]
        refine wpAnyH_ready (rs := [10]) (by kernel_rfl) (by simp) ?_
        refine AllReadyH.cons (o := { dst := some 80, op := Go.Op.call { callee := Go.Callee.value (Go.Operand.func 52), args := #[Go.Operand.tmp 79], argTypes := #[29] }, type := 2, pos := "l03_write.go:214", after := #[{ on := 9, ground := Go.Ground.data }, { on := 8, ground := Go.Ground.chain }, { on := 8, ground := Go.Ground.guard }], guard := some (8, true) }) rfl (fun K hK => ?_) AllReadyH.nil
        go_simp
        go_at_call 52
        refine (implWriteFault 1 n1 (.slice ax 3 cx) n2 n3 [p, q, r] _ (Lay.ints_reads hVD.reads)).mono ?_
        rintro e w8 ⟨rfl, hb8⟩
        have hRT8 := hRT.keep hb8
        have HBT8 := hide ((unhide HBT).trans (hb8.mono (unhide HBT).size))
        have hVD8 := hVD.later hb8
        try go_wp2_with fail
        refine hK.out _ _ (hHeld.trans (ext_of_below hb8 _)) (fun hHeld => ?_)
        clear hK K
        try simp only [Act.put, List.setIfInBounds_toArray, List.set_cons_zero, List.set_cons_succ]
        refine wpAnyH_take (i := 11) (oi := { dst := some 81, op := Go.Op.binOp Go.BinOp.eql 2 (Go.Operand.tmp 80) (Go.Operand.const (Go.Value.int Go.IntKind.i64 0)) 2, type := 4, pos := "l03_write.go:214", after := #[{ on := 10, ground := Go.Ground.data }, { on := 8, ground := Go.Ground.guard }, { on := 13, ground := Go.Ground.gcOnly Go.Departure.lateStores }], guard := some (8, true) }) (v := ?vr911) rfl (by kernel_rfl) (by kernel_rfl) (by kernel_rfl) (fun _ _ _ h => h) (Or.inl ⟨by rfl, ?hr911⟩) hHeld ?rr911
        case hr911 =>
          intro wS hSw
          (try dsimp only at hSw)
          go_simp
          try with_reducible rfl
        case rr911 =>
        simp only [Act.put, List.setIfInBounds_toArray, List.set_cons_zero, List.set_cons_succ]
        refine wpAnyH_take (i := 12) (oi := { dst := some 82, op := Go.Op.pick (Go.Operand.tmp 78) (Go.Operand.tmp 81) (Go.Operand.const (Go.Value.bool false)), type := 4, pos := "l03_write.go:214", after := #[{ on := 8, ground := Go.Ground.data }, { on := 11, ground := Go.Ground.data }, { on := 13, ground := Go.Ground.gcOnly Go.Departure.lateStores }], guard := none }) (v := ?vr912) rfl (by kernel_rfl) (by kernel_rfl) (by kernel_rfl) (fun _ _ _ h => h) (Or.inl ⟨by rfl, ?hr912⟩) hHeld ?rr912
        case hr912 =>
          intro wS hSw
          (try dsimp only at hSw)
          go_simp
          try with_reducible rfl
        case rr912 =>
        simp only [Act.put, List.setIfInBounds_toArray, List.set_cons_zero, List.set_cons_succ]
        refine wpAnyH_ready (rs := [13]) (by kernel_rfl) (by simp) ?_
        refine AllReadyH.cons (o := { dst := none, op := Go.Op.store 29 (Go.Operand.tmp 2) (Go.Operand.tmp 70), type := 0, pos := "l03_write.go:214", after := #[{ on := 0, ground := Go.Ground.data }, { on := 10, ground := Go.Ground.chain }, { on := 0, ground := Go.Ground.phase }, { on := 1, ground := Go.Ground.textOnly Go.Departure.lateStores }, { on := 2, ground := Go.Ground.textOnly Go.Departure.lateStores }, { on := 3, ground := Go.Ground.textOnly Go.Departure.lateStores }, { on := 4, ground := Go.Ground.textOnly Go.Departure.lateStores }, { on := 5, ground := Go.Ground.textOnly Go.Departure.lateStores }, { on := 6, ground := Go.Ground.textOnly Go.Departure.lateStores }, { on := 7, ground := Go.Ground.textOnly Go.Departure.lateStores }, { on := 8, ground := Go.Ground.textOnly Go.Departure.lateStores }, { on := 9, ground := Go.Ground.textOnly Go.Departure.lateStores }, { on := 10, ground := Go.Ground.textOnly Go.Departure.lateStoresUnsure }, { on := 11, ground := Go.Ground.textOnly Go.Departure.lateStores }, { on := 12, ground := Go.Ground.textOnly Go.Departure.lateStores }], guard := none }) rfl (fun K hK => ?_) AllReadyH.nil
        have z0 : w8.cell? ⟨w.heap.size, 0, none⟩ = some (.int .i64 0) := (hRT8).at 0 _ rfl
        have z1 : w8.cell? ⟨w.heap.size, 1, none⟩ = some (.int .i64 0) := (hRT8).at 1 _ rfl
        have z2 : w8.cell? ⟨w.heap.size, 2, none⟩ = some (.slice none 0 0) := (hRT8).at 2 _ rfl
        have z3 : w8.cell? ⟨w.heap.size, 3, none⟩ = some (.int .i64 0) := (hRT8).at 3 _ rfl
        have z4 : w8.cell? ⟨w.heap.size, 4, none⟩ = some (.int .i64 0) := (hRT8).at 4 _ rfl
        have f0 := hRT8.soft 0
        have f1 := hRT8.soft 1
        have f2 := hRT8.soft 2
        have f3 := hRT8.soft 3
        have f4 := hRT8.soft 4
        have lR := hRT8.lt
        go_simp
        refine hK.out _ _ (((((hHeld.setCell ⟨w.heap.size, 0, none⟩ _ rfl).setCell ⟨w.heap.size, 1, none⟩ _ rfl).setCell ⟨w.heap.size, 2, none⟩ _ rfl).setCell ⟨w.heap.size, 3, none⟩ _ rfl).setCell ⟨w.heap.size, 4, none⟩ _ rfl) (fun hHeld => ?_)
        clear hK K
        try simp only [Act.put, List.setIfInBounds_toArray, List.set_cons_zero, List.set_cons_succ]
        refine wpAnyH_take (i := 14) (oi := { dst := some 3, op := Go.Op.assign (Go.Operand.tmp 82), type := 4, pos := "l03_write.go:214", after := #[{ on := 12, ground := Go.Ground.data }, { on := 13, ground := Go.Ground.chain }, { on := 0, ground := Go.Ground.phase }, { on := 1, ground := Go.Ground.phase }, { on := 2, ground := Go.Ground.phase }, { on := 3, ground := Go.Ground.phase }, { on := 4, ground := Go.Ground.phase }, { on := 5, ground := Go.Ground.phase }, { on := 6, ground := Go.Ground.phase }, { on := 7, ground := Go.Ground.phase }, { on := 8, ground := Go.Ground.phase }, { on := 9, ground := Go.Ground.phase }, { on := 10, ground := Go.Ground.phase }, { on := 11, ground := Go.Ground.phase }, { on := 12, ground := Go.Ground.phase }, { on := 13, ground := Go.Ground.phase }], guard := none }) (v := ?vr914) rfl (by kernel_rfl) (by kernel_rfl) (by kernel_rfl) (fun _ _ _ h => h) (Or.inl ⟨by rfl, ?hr914⟩) hHeld ?rr914
        case hr914 =>
          intro wS hSw
          (try dsimp only at hSw)
          go_simp
          try with_reducible rfl
        case rr914 =>
        simp only [Act.put, List.setIfInBounds_toArray, List.set_cons_zero, List.set_cons_succ]
        refine wpAnyH_done (by kernel_rfl) ?_ _
        refine NoPanic.normal ?_
        have hE : Ext (fun c => c = w.heap.size) w8 (((((w8.setCell ⟨w.heap.size, 0, none⟩ (.int .i64 1)).setCell ⟨w.heap.size, 1, none⟩ (.int .i64 n1)).setCell ⟨w.heap.size, 2, none⟩ (.slice ax 3 cx)).setCell ⟨w.heap.size, 3, none⟩ (.int .i64 n2)).setCell ⟨w.heap.size, 4, none⟩ (.int .i64 n3)) := ((((((Ext.refl (fun c => c = w.heap.size) _).setCell ⟨w.heap.size, 0, none⟩ _ rfl).setCell ⟨w.heap.size, 1, none⟩ _ rfl).setCell ⟨w.heap.size, 2, none⟩ _ rfl).setCell ⟨w.heap.size, 3, none⟩ _ rfl).setCell ⟨w.heap.size, 4, none⟩ _ rfl)
        have hRZ := (((((hRT8.set 0 (.int .i64 1)).set 1 (.int .i64 n1)).set 2 (.slice ax 3 cx)).set 3 (.int .i64 n2)).set 4 (.int .i64 n3))
        have z0 : (((((w8.setCell ⟨w.heap.size, 0, none⟩ (.int .i64 1)).setCell ⟨w.heap.size, 1, none⟩ (.int .i64 n1)).setCell ⟨w.heap.size, 2, none⟩ (.slice ax 3 cx)).setCell ⟨w.heap.size, 3, none⟩ (.int .i64 n2)).setCell ⟨w.heap.size, 4, none⟩ (.int .i64 n3)).cell? ⟨w.heap.size, 0, none⟩ = some (.int .i64 1) := hRZ.at 0 _ rfl
        have z1 : (((((w8.setCell ⟨w.heap.size, 0, none⟩ (.int .i64 1)).setCell ⟨w.heap.size, 1, none⟩ (.int .i64 n1)).setCell ⟨w.heap.size, 2, none⟩ (.slice ax 3 cx)).setCell ⟨w.heap.size, 3, none⟩ (.int .i64 n2)).setCell ⟨w.heap.size, 4, none⟩ (.int .i64 n3)).cell? ⟨w.heap.size, 1, none⟩ = some (.int .i64 n1) := hRZ.at 1 _ rfl
        have z2 : (((((w8.setCell ⟨w.heap.size, 0, none⟩ (.int .i64 1)).setCell ⟨w.heap.size, 1, none⟩ (.int .i64 n1)).setCell ⟨w.heap.size, 2, none⟩ (.slice ax 3 cx)).setCell ⟨w.heap.size, 3, none⟩ (.int .i64 n2)).setCell ⟨w.heap.size, 4, none⟩ (.int .i64 n3)).cell? ⟨w.heap.size, 2, none⟩ = some (.slice ax 3 cx) := hRZ.at 2 _ rfl
        have z3 : (((((w8.setCell ⟨w.heap.size, 0, none⟩ (.int .i64 1)).setCell ⟨w.heap.size, 1, none⟩ (.int .i64 n1)).setCell ⟨w.heap.size, 2, none⟩ (.slice ax 3 cx)).setCell ⟨w.heap.size, 3, none⟩ (.int .i64 n2)).setCell ⟨w.heap.size, 4, none⟩ (.int .i64 n3)).cell? ⟨w.heap.size, 3, none⟩ = some (.int .i64 n2) := hRZ.at 3 _ rfl
        have z4 : (((((w8.setCell ⟨w.heap.size, 0, none⟩ (.int .i64 1)).setCell ⟨w.heap.size, 1, none⟩ (.int .i64 n1)).setCell ⟨w.heap.size, 2, none⟩ (.slice ax 3 cx)).setCell ⟨w.heap.size, 3, none⟩ (.int .i64 n2)).setCell ⟨w.heap.size, 4, none⟩ (.int .i64 n3)).cell? ⟨w.heap.size, 4, none⟩ = some (.int .i64 n3) := hRZ.at 4 _ rfl
        have HBZ : Hid (Below w.heap.size w (((((w8.setCell ⟨w.heap.size, 0, none⟩ (.int .i64 1)).setCell ⟨w.heap.size, 1, none⟩ (.int .i64 n1)).setCell ⟨w.heap.size, 2, none⟩ (.slice ax 3 cx)).setCell ⟨w.heap.size, 3, none⟩ (.int .i64 n2)).setCell ⟨w.heap.size, 4, none⟩ (.int .i64 n3))) := (unhide HBT8).trans (hE.below (by have := (unhide HBT8).size; omega) (fun k hk e => by omega))
        have HOZ : Hid ((Lay.sl Lay.int).OwnIn (((((w8.setCell ⟨w.heap.size, 0, none⟩ (.int .i64 1)).setCell ⟨w.heap.size, 1, none⟩ (.int .i64 n1)).setCell ⟨w.heap.size, 2, none⟩ (.slice ax 3 cx)).setCell ⟨w.heap.size, 3, none⟩ (.int .i64 n2)).setCell ⟨w.heap.size, 4, none⟩ (.int .i64 n3)) [.slice ax 3 cx] [p, q, r] w.heap.size (((((w8.setCell ⟨w.heap.size, 0, none⟩ (.int .i64 1)).setCell ⟨w.heap.size, 1, none⟩ (.int .i64 n1)).setCell ⟨w.heap.size, 2, none⟩ (.slice ax 3 cx)).setCell ⟨w.heap.size, 3, none⟩ (.int .i64 n2)).setCell ⟨w.heap.size, 4, none⟩ (.int .i64 n3)).heap.size) := (hVD8.ext hE (fun c h1 _ h3 => by omega)).mono (by omega) (by simp; exact hb8.size)
        clear hHeld hE hRZ hRT8 hVD8 hVD hRT
        generalize (((((w8.setCell ⟨w.heap.size, 0, none⟩ (.int .i64 1)).setCell ⟨w.heap.size, 1, none⟩ (.int .i64 n1)).setCell ⟨w.heap.size, 2, none⟩ (.slice ax 3 cx)).setCell ⟨w.heap.size, 3, none⟩ (.int .i64 n2)).setCell ⟨w.heap.size, 4, none⟩ (.int .i64 n3)) = wZ at *
        go_wp2_with fail
        refine bodyPost_ret (v := .tuple #[.agg #[.int .i64 1, .int .i64 n1, .slice ax 3 cx, .int .i64 n2, .int .i64 n3], .bool (writeFault 1 n1 [p, q, r] n2 n3 == 0)]) (by simp [results, Tryd.results27, go_sem, z0, z1, z2, z3, z4]) rfl ?_
        refine ⟨_, _, _, _, _, _, _, (writeFault 1 n1 [p, q, r] n2 n3 == 0), rfl, fun h => ?_, fun h => ?_, unhide HBZ⟩
        · have hz : writeFault 1 n1 [p, q, r] n2 n3 = 0 := by simpa using h
          obtain ⟨w1_, w2_, w3_, -⟩ := writeFault_zero hz
          obtain ⟨bl, O, i⟩ := unhide HOZ
          exact ⟨⟨1, n1, [p, q, r], n2, n3⟩, by rw [unhide HL]; simp [hz], ⟨bl, mkOwn_Write (x := ⟨1, n1, [p, q, r], n2, n3⟩) O (show (Lit.int .i64 1).wf = true by decide) (wf_of_bd (z := n1) (by omega)) (wf_of_bd (z := n2) (by omega)) (wf_of_bd (z := n3) (by omega)) O.2.1, i⟩⟩
        · rw [unhide HL]; simp only [Bool.true_and, h]; rfl

end Go.Proofs.YtjfplfhdfiebgaaDoor
