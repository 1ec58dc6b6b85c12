/-
  Texts of this proof in one: ImplReadD, ImplReadP, SplitPlain, Shelf, ImplRead, OwnWriteResult, ImplPW, AppInt, AppStr, Text, ImplWords, LayTextResult.
  Their conditions stand in their theorems.
-/
import Derived.Test.YtjofcmdlcoganaaGreatDoorWq04
import Derived.Test.YtjofcmdlcoganaaGreatDoorWq01
import Derived.Deep.CutRange
import Derived.Test.YtjofcmdlcoganaaGreatDoorWq02
import Derived.Lib.SplitLaws
import Derived.Shelf.Strings.OnBuilder
import Derived.Shelf.LaysM
import Derived.Shelf.Strconv.Itoa4
import Derived.Shelf.Strings.SplitShaped
import Derived.Test.YtjofcmdlcoganaaGreatDoorProg
import Derived.ChangeAgain
import Derived.Test.YtjofcmdlcoganaaGreatDoorWq03
import Derived.Deep.AppendLies
import Derived.Test.YtjofcmdlcoganaaGreatDoorChecked
import Derived.Lib.LaidTab
import Derived.Lib.AppendIntMem

namespace Go.Proofs.YtjofcmdlcoganaaGreatDoor
open Go.RowKit

set_option maxRecDepth 100000 in
set_option maxHeartbeats 4000000 in
theorem readW_drop (s : ByteArray) (d a b c : ByteArray) (l : List Bytes) (w : World) (hsp : ∀ W : World, W = w.alloc (.cells #[.int .i64 0, .int .i64 0, .slice none 0 0, .int .i64 0, .int .i64 0] 27) → Calls Tryz.prog 43 #[.string s, .string ⟨#[32]⟩] W fun e w' => e = .returned (.slice (some ⟨W.heap.size, 0, none⟩) 5 5) ∧ w' = W.alloc (.cells #[.string d, .string a, .string ⟨#[98, 121]⟩, .string b, .string c] 9)) (sa : a.size ≤ 1048576) (sb : b.size ≤ 1048576) (sc : c.size ≤ 1048576) (hl : readI l = if tailI 2 [] a.data.toList b.data.toList c.data.toList = true then some (tailX 2 [] a.data.toList b.data.toList c.data.toList) else none) (hd : ∀ W, Box 0 #[.string d, .string a, .string ⟨#[98, 121]⟩, .string b, .string c] 9 W (w.heap.size + 1) → Calls Tryz.prog 44 #[.slice (some ⟨w.heap.size + 1, 0, none⟩) 2 5] W fun e w' => e = .returned (.tuple #[dropV, .bool true]) ∧ Below W.heap.size W w') :
    Calls Tryz.prog 23 #[.string s] w fun e w' => ∃ (k i : Int) (a : Option Addr) (n c : Nat) (ss q : Int) (ok : Bool), e = .returned (.tuple #[.agg #[.int .i64 k, .int .i64 i, .slice a n c, .int .i64 ss, .int .i64 q], .bool ok]) ∧ (ok = true → ∃ x, readI l = some x ∧ Lay.tWrite.OwnIn w' [.int .i64 k, .int .i64 i, .slice a n c, .int .i64 ss, .int .i64 q] x w.heap.size w'.heap.size) ∧ (ok = false → readI l = none) ∧ Below w.heap.size w w' := by
  have nb : Below w.heap.size w (w.alloc (.cells #[.int .i64 0, .int .i64 0, .slice none 0 0, .int .i64 0, .int .i64 0] 27)) := (Below.refl _ _).alloc (Nat.le_refl _) _
  have bR0 : Box 0 #[.int .i64 0, .int .i64 0, .slice none 0 0, .int .i64 0, .int .i64 0] 27 (w.alloc (.cells #[.int .i64 0, .int .i64 0, .slice none 0 0, .int .i64 0, .int .i64 0] 27)) w.heap.size := newBox (Nat.zero_le _)
  have hs0 : (w.alloc (.cells #[.int .i64 0, .int .i64 0, .slice none 0 0, .int .i64 0, .int .i64 0] 27)).heap.size = w.heap.size + 1 := by simp
  have HSP := hide (hsp _ rfl)
  clear hsp
  go_enter Tryz.func23, Tryz.ntmps23
  go_wp2_with fail
  generalize w.alloc (.cells #[.int .i64 0, .int .i64 0, .slice none 0 0, .int .i64 0, .int .i64 0] 27) = w1 at *
  refine (unhide HSP).mono ?_
  rintro e w2 ⟨rfl, hw2⟩
  have nb2 : Below w1.heap.size w1 w2 := by rw [hw2]; exact (Below.refl _ _).alloc (Nat.le_refl _) _
  have bS : Box 0 #[.string d, .string a, .string ⟨#[98, 121]⟩, .string b, .string c] 9 w2 w1.heap.size := by rw [hw2]; exact newBox (Nat.zero_le _)
  have bR := bR0.keep nb2
  have HB2 := hide (nb.trans (nb2.mono nb.size))
  have hlt2 := bS.lt
  rw [hs0] at *
  clear hw2 nb nb2 bR0 HSP
  have HD := hide (hd w2 bS)
  have HR := hide bR
  have HS := hide bS
  have s0 : w2.cell? ⟨w.heap.size + 1, 0, none⟩ = some (.string d) := bS.at 0 _ rfl
  have s1 : w2.cell? ⟨w.heap.size + 1, 1, none⟩ = some (.string a) := bS.at 1 _ rfl
  have s2 : w2.cell? ⟨w.heap.size + 1, 2, none⟩ = some (.string ⟨#[98, 121]⟩) := bS.at 2 _ rfl
  have s3 : w2.cell? ⟨w.heap.size + 1, 3, none⟩ = some (.string b) := bS.at 3 _ rfl
  have s4 : w2.cell? ⟨w.heap.size + 1, 4, none⟩ = some (.string c) := bS.at 4 _ rfl
  clear bS bR hd
  simp only [dropV] at *
  go_wp2_with fail
  clear s0 s1 s2 s3 s4
  refine (unhide HD).mono ?_
  rintro e w3 ⟨rfl, hb3⟩
  have HR3 := hide ((unhide HR).keep hb3)
  have bS := (unhide HS).keep hb3
  replace HB2 := hide ((unhide HB2).trans (hb3.mono (unhide HB2).size))
  have h3 : w2.heap.size ≤ w3.heap.size := hb3.size
  have s0 : w3.cell? ⟨w.heap.size + 1, 0, none⟩ = some (.string d) := bS.at 0 _ rfl
  have s1 : w3.cell? ⟨w.heap.size + 1, 1, none⟩ = some (.string a) := bS.at 1 _ rfl
  have s2 : w3.cell? ⟨w.heap.size + 1, 2, none⟩ = some (.string ⟨#[98, 121]⟩) := bS.at 2 _ rfl
  have s3 : w3.cell? ⟨w.heap.size + 1, 3, none⟩ = some (.string b) := bS.at 3 _ rfl
  have s4 : w3.cell? ⟨w.heap.size + 1, 4, none⟩ = some (.string c) := bS.at 4 _ rfl
  have HN1 := hide (readNumber_c a 3 w3 sa (by decide))
  have HN2 := hide (readNumber_c b 1 w3 sb (by decide))
  have HN3 := hide (readNumber_c c 3 w3 sc (by decide))
  have hT : tailI 2 [] a.data.toList b.data.toList c.data.toList = (((readN 3 a.data.toList).2 && (readN 1 b.data.toList).2 && (readN 3 c.data.toList).2) && (writeFault 2 (readN 3 a.data.toList).1 [] (readN 1 b.data.toList).1 (readN 3 c.data.toList).1 == 0)) := rfl
  have hX : tailX 2 [] a.data.toList b.data.toList c.data.toList = ⟨2, (readN 3 a.data.toList).1, [], (readN 1 b.data.toList).1, (readN 3 c.data.toList).1⟩ := rfl
  rw [hT, hX] at hl
  have HL := hide hl
  clear hT hX hl
  generalize (readN 3 a.data.toList).1 = n1 at *
  generalize (readN 1 b.data.toList).1 = n2 at *
  generalize (readN 3 c.data.toList).1 = n3 at *
  generalize (readN 3 a.data.toList).2 = o1 at *
  generalize (readN 1 b.data.toList).2 = o2 at *
  generalize (readN 3 c.data.toList).2 = o3 at *
  have HW := hide (writeOf_drop n1 n2 n3 w3)
  clear HR HS HD hb3 bS
  go_wp2_with fail
  refine (unhide HN1).mono ?_
  rintro e w4 ⟨rfl, hw4⟩
  rw [hw4]
  clear hw4 w4
  go_wp2_with fail
  refine (unhide HN2).mono ?_
  rintro e w4 ⟨rfl, hw4⟩
  rw [hw4]
  clear hw4 w4
  go_wp2_with fail
  refine (unhide HN3).mono ?_
  rintro e w4 ⟨rfl, hw4⟩
  rw [hw4]
  clear hw4 w4 HN1 HN2 HN3 s0 s1 s2 s3 s4
  go_wp2_with fail
  refine (unhide HW).mono ?_
  rintro e w5 ⟨rfl, hb5⟩
  have hO : (Lay.sl Lay.int).OwnIn w5 [.slice none 0 0] [] w3.heap.size w5.heap.size := ⟨[], ⟨⟨none, 0, rfl, by simp, Or.inl ⟨rfl, rfl⟩⟩, by simp, by simp⟩, by simp⟩
  obtain ⟨blV, oV, iV⟩ := hO
  have nb6 : Below w5.heap.size w5 (w5.alloc (.cells #[.int .i64 2, .int .i64 n1, .slice none 0 0, .int .i64 n2, .int .i64 n3] 27)) := (Below.refl _ _).alloc (Nat.le_refl _) _
  have HQ : Hid (Box 0 #[.int .i64 2, .int .i64 n1, .slice none 0 0, .int .i64 n2, .int .i64 n3] 27 (w5.alloc (.cells #[.int .i64 2, .int .i64 n1, .slice none 0 0, .int .i64 n2, .int .i64 n3] 27)) w5.heap.size) := newBox (Nat.zero_le _)
  have HR6 := hide (((unhide HR3).keep hb5).keep nb6)
  have HB6 := hide (((unhide HB2).trans (hb5.mono (unhide HB2).size)).trans (nb6.mono (Nat.le_trans (unhide HB2).size hb5.size)))
  have HV : Hid ((Lay.sl Lay.int).OwnIn (w5.alloc (.cells #[.int .i64 2, .int .i64 n1, .slice none 0 0, .int .i64 n2, .int .i64 n3] 27)) [.slice none 0 0] [] (w.heap.size + 1) (w5.alloc (.cells #[.int .i64 2, .int .i64 n1, .slice none 0 0, .int .i64 n2, .int .i64 n3] 27)).heap.size) := (Lay.OwnIn.later (A := Lay.sl Lay.int) ⟨blV, oV, iV⟩ nb6).mono (by omega) nb6.size
  have h5 : w3.heap.size ≤ w5.heap.size := hb5.size
  clear hb5 nb6 oV iV HW HR3 HB2
  go_upto_region 12 with fail
  generalize w5.alloc (.cells #[.int .i64 2, .int .i64 n1, .slice none 0 0, .int .i64 n2, .int .i64 n3] 27) = w6 at *
  generalize w5.heap.size = pQ at *
  have hQ := unhide HQ
  have hR := unhide HR6
  have hlq := hQ.lt
  clear HQ HR6
  cases o1 with
  | false =>
    have hRT : Box 0 #[.int .i64 0, .int .i64 0, .slice none 0 0, .int .i64 0, .int .i64 0] 27 w6.drew w.heap.size := hR
    have HBT := hide (unhide HB6).drew
    refine wp_region_noPanic ?_
    refine wp_region_held_drew (S := fun w' => Ext (fun c => c = w.heap.size) w6 w') (by kernel_rfl) ⟨rfl, rfl, rfl, Nat.le_refl _, fun _ _ _ => rfl⟩ (fun hHeld => ?_)
    generalize w6.drew = wT at hHeld hRT HBT ⊢
    refine wpAnyH_take (i := 0) (oi := { dst := some 70, op := Go.Op.load 27 (Go.Operand.tmp 14), type := 27, pos := "l03_write.go:214", after := #[], guard := none }) (v := ?vr00) rfl (by kernel_rfl) (by kernel_rfl) (by kernel_rfl) (fun _ _ _ h => h) (Or.inl ⟨by rfl, ?hr00⟩) hHeld ?rr00
    case hr00 =>
      intro wS hSw
      have y0 : wS.cell? ⟨pQ, 0, none⟩ = some (.int .i64 2) := (hQ.ext hSw (by omega)).at 0 _ rfl
      have y1 : wS.cell? ⟨pQ, 1, none⟩ = some (.int .i64 n1) := (hQ.ext hSw (by omega)).at 1 _ rfl
      have y2 : wS.cell? ⟨pQ, 2, none⟩ = some (.slice none 0 0) := (hQ.ext hSw (by omega)).at 2 _ rfl
      have y3 : wS.cell? ⟨pQ, 3, none⟩ = some (.int .i64 n2) := (hQ.ext hSw (by omega)).at 3 _ rfl
      have y4 : wS.cell? ⟨pQ, 4, none⟩ = some (.int .i64 n3) := (hQ.ext hSw (by omega)).at 4 _ rfl
      clear hSw
      (try dsimp only at hSw)
      go_simp
      try with_reducible rfl
    case rr00 =>
    simp only [Act.put, List.setIfInBounds_toArray, List.set_cons_zero, List.set_cons_succ]
    refine wpAnyH_take (i := 1) (oi := { dst := some 71, op := Go.Op.move (Go.Operand.tmp 9), type := 4, pos := "l03_write.go:214", after := #[], guard := none }) (v := ?vr01) rfl (by kernel_rfl) (by kernel_rfl) (by kernel_rfl) (fun _ _ _ h => h) (Or.inl ⟨by rfl, ?hr01⟩) hHeld ?rr01
    case hr01 =>
      intro wS hSw
      (try dsimp only at hSw)
      go_simp
      try with_reducible rfl
    case rr01 =>
    simp only [Act.put, List.setIfInBounds_toArray, List.set_cons_zero, List.set_cons_succ]
    refine wpAnyH_take (i := 2) (oi := { dst := some 72, op := Go.Op.move (Go.Operand.tmp 71), type := 4, pos := "l03_write.go:214", after := #[{ on := 1, ground := Go.Ground.data }], guard := none }) (v := ?vr02) rfl (by kernel_rfl) (by kernel_rfl) (by kernel_rfl) (fun _ _ _ h => h) (Or.inl ⟨by rfl, ?hr02⟩) hHeld ?rr02
    case hr02 =>
      intro wS hSw
      (try dsimp only at hSw)
      go_simp
      try with_reducible rfl
    case rr02 =>
    simp only [Act.put, List.setIfInBounds_toArray, List.set_cons_zero, List.set_cons_succ]
    refine wpAnyH_take (i := 3) (oi := { dst := some 73, op := Go.Op.move (Go.Operand.tmp 11), type := 4, pos := "l03_write.go:214", after := #[{ on := 2, ground := Go.Ground.guard }], guard := some (2, true) }) (v := undef) rfl (by kernel_rfl) (by kernel_rfl) (by kernel_rfl) (fun _ _ _ h => h) (Or.inr ⟨by rfl, rfl⟩) hHeld ?_
    simp only [Act.put, List.setIfInBounds_toArray, List.set_cons_zero, List.set_cons_succ]
    refine wpAnyH_take (i := 4) (oi := { dst := some 74, op := Go.Op.pick (Go.Operand.tmp 72) (Go.Operand.tmp 73) (Go.Operand.const (Go.Value.bool false)), type := 4, pos := "l03_write.go:214", after := #[{ on := 2, ground := Go.Ground.data }, { on := 3, ground := Go.Ground.data }], guard := none }) (v := ?vr04) rfl (by kernel_rfl) (by kernel_rfl) (by kernel_rfl) (fun _ _ _ h => h) (Or.inl ⟨by rfl, ?hr04⟩) hHeld ?rr04
    case hr04 =>
      intro wS hSw
      (try dsimp only at hSw)
      go_simp
      try with_reducible rfl
    case rr04 =>
    simp only [Act.put, List.setIfInBounds_toArray, List.set_cons_zero, List.set_cons_succ]
    refine wpAnyH_take (i := 5) (oi := { dst := some 75, op := Go.Op.move (Go.Operand.tmp 74), type := 4, pos := "l03_write.go:214", after := #[{ on := 4, ground := Go.Ground.data }, { on := 2, ground := Go.Ground.chain }], guard := none }) (v := ?vr05) rfl (by kernel_rfl) (by kernel_rfl) (by kernel_rfl) (fun _ _ _ h => h) (Or.inl ⟨by rfl, ?hr05⟩) hHeld ?rr05
    case hr05 =>
      intro wS hSw
      (try dsimp only at hSw)
      go_simp
      try with_reducible rfl
    case rr05 =>
    simp only [Act.put, List.setIfInBounds_toArray, List.set_cons_zero, List.set_cons_succ]
    refine wpAnyH_take (i := 6) (oi := { dst := some 76, op := Go.Op.move (Go.Operand.tmp 13), type := 4, pos := "l03_write.go:214", after := #[{ on := 5, ground := Go.Ground.guard }], guard := some (5, true) }) (v := undef) rfl (by kernel_rfl) (by kernel_rfl) (by kernel_rfl) (fun _ _ _ h => h) (Or.inr ⟨by rfl, rfl⟩) hHeld ?_
    simp only [Act.put, List.setIfInBounds_toArray, List.set_cons_zero, List.set_cons_succ]
    refine wpAnyH_take (i := 7) (oi := { dst := some 77, op := Go.Op.pick (Go.Operand.tmp 75) (Go.Operand.tmp 76) (Go.Operand.const (Go.Value.bool false)), type := 4, pos := "l03_write.go:214", after := #[{ on := 5, ground := Go.Ground.data }, { on := 6, ground := Go.Ground.data }], guard := none }) (v := ?vr07) rfl (by kernel_rfl) (by kernel_rfl) (by kernel_rfl) (fun _ _ _ h => h) (Or.inl ⟨by rfl, ?hr07⟩) hHeld ?rr07
    case hr07 =>
      intro wS hSw
      (try dsimp only at hSw)
      go_simp
      try with_reducible rfl
    case rr07 =>
    simp only [Act.put, List.setIfInBounds_toArray, List.set_cons_zero, List.set_cons_succ]
    refine wpAnyH_take (i := 8) (oi := { dst := some 78, op := Go.Op.move (Go.Operand.tmp 77), type := 4, pos := "l03_write.go:214", after := #[{ on := 7, ground := Go.Ground.data }, { on := 5, ground := Go.Ground.chain }], guard := none }) (v := ?vr08) rfl (by kernel_rfl) (by kernel_rfl) (by kernel_rfl) (fun _ _ _ h => h) (Or.inl ⟨by rfl, ?hr08⟩) hHeld ?rr08
    case hr08 =>
      intro wS hSw
      (try dsimp only at hSw)
      go_simp
      try with_reducible rfl
    case rr08 =>
    simp only [Act.put, List.setIfInBounds_toArray, List.set_cons_zero, List.set_cons_succ]
    refine wpAnyH_take (i := 9) (oi := { dst := some 79, op := Go.Op.load 27 (Go.Operand.tmp 14), type := 27, pos := "l03_write.go:214", after := #[{ on := 8, ground := Go.Ground.guard }], guard := some (8, true) }) (v := undef) rfl (by kernel_rfl) (by kernel_rfl) (by kernel_rfl) (fun _ _ _ h => h) (Or.inr ⟨by rfl, rfl⟩) hHeld ?_
    simp only [Act.put, List.setIfInBounds_toArray, List.set_cons_zero, List.set_cons_succ]
    refine wpAnyH_take (i := 10) (oi := { dst := some 80, op := Go.Op.call { callee := Go.Callee.value (Go.Operand.func 16), args := #[Go.Operand.tmp 79], argTypes := #[27] }, type := 2, pos := "l03_write.go:214", after := #[{ on := 9, ground := Go.Ground.data }, { on := 8, ground := Go.Ground.chain }, { on := 8, ground := Go.Ground.guard }], guard := some (8, true) }) (v := undef) rfl (by kernel_rfl) (by kernel_rfl) (by kernel_rfl) (fun _ _ _ h => h) (Or.inr ⟨by rfl, rfl⟩) hHeld ?_
    simp only [Act.put, List.setIfInBounds_toArray, List.set_cons_zero, List.set_cons_succ]
    refine wpAnyH_take (i := 11) (oi := { dst := some 81, op := Go.Op.binOp Go.BinOp.eql 2 (Go.Operand.tmp 80) (Go.Operand.const (Go.Value.int Go.IntKind.i64 0)) 2, type := 4, pos := "l03_write.go:214", after := #[{ on := 10, ground := Go.Ground.data }, { on := 8, ground := Go.Ground.guard }, { on := 13, ground := Go.Ground.gcOnly Go.Departure.lateStores }], guard := some (8, true) }) (v := undef) rfl (by kernel_rfl) (by kernel_rfl) (by kernel_rfl) (fun _ _ _ h => h) (Or.inr ⟨by rfl, rfl⟩) hHeld ?_
    simp only [Act.put, List.setIfInBounds_toArray, List.set_cons_zero, List.set_cons_succ]
    refine wpAnyH_take (i := 12) (oi := { dst := some 82, op := Go.Op.pick (Go.Operand.tmp 78) (Go.Operand.tmp 81) (Go.Operand.const (Go.Value.bool false)), type := 4, pos := "l03_write.go:214", after := #[{ on := 8, ground := Go.Ground.data }, { on := 11, ground := Go.Ground.data }, { on := 13, ground := Go.Ground.gcOnly Go.Departure.lateStores }], guard := none }) (v := ?vr012) rfl (by kernel_rfl) (by kernel_rfl) (by kernel_rfl) (fun _ _ _ h => h) (Or.inl ⟨by rfl, ?hr012⟩) hHeld ?rr012
    case hr012 =>
      intro wS hSw
      (try dsimp only at hSw)
      go_simp
      try with_reducible rfl
    case rr012 =>
    simp only [Act.put, List.setIfInBounds_toArray, List.set_cons_zero, List.set_cons_succ]
    refine wpAnyH_ready (rs := [13]) (by kernel_rfl) (by simp) ?_
    refine AllReadyH.cons (o := { dst := none, op := Go.Op.store 27 (Go.Operand.tmp 2) (Go.Operand.tmp 70), type := 0, pos := "l03_write.go:214", after := #[{ on := 0, ground := Go.Ground.data }, { on := 10, ground := Go.Ground.chain }, { on := 0, ground := Go.Ground.phase }, { on := 1, ground := Go.Ground.textOnly Go.Departure.lateStores }, { on := 2, ground := Go.Ground.textOnly Go.Departure.lateStores }, { on := 3, ground := Go.Ground.textOnly Go.Departure.lateStores }, { on := 4, ground := Go.Ground.textOnly Go.Departure.lateStores }, { on := 5, ground := Go.Ground.textOnly Go.Departure.lateStores }, { on := 6, ground := Go.Ground.textOnly Go.Departure.lateStores }, { on := 7, ground := Go.Ground.textOnly Go.Departure.lateStores }, { on := 8, ground := Go.Ground.textOnly Go.Departure.lateStores }, { on := 9, ground := Go.Ground.textOnly Go.Departure.lateStores }, { on := 10, ground := Go.Ground.textOnly Go.Departure.lateStoresUnsure }, { on := 11, ground := Go.Ground.textOnly Go.Departure.lateStores }, { on := 12, ground := Go.Ground.textOnly Go.Departure.lateStores }], guard := none }) rfl (fun K hK => ?_) AllReadyH.nil
    have z0 : wT.cell? ⟨w.heap.size, 0, none⟩ = some (.int .i64 0) := (hRT).at 0 _ rfl
    have z1 : wT.cell? ⟨w.heap.size, 1, none⟩ = some (.int .i64 0) := (hRT).at 1 _ rfl
    have z2 : wT.cell? ⟨w.heap.size, 2, none⟩ = some (.slice none 0 0) := (hRT).at 2 _ rfl
    have z3 : wT.cell? ⟨w.heap.size, 3, none⟩ = some (.int .i64 0) := (hRT).at 3 _ rfl
    have z4 : wT.cell? ⟨w.heap.size, 4, none⟩ = some (.int .i64 0) := (hRT).at 4 _ rfl
    have f0 := hRT.soft 0
    have f1 := hRT.soft 1
    have f2 := hRT.soft 2
    have f3 := hRT.soft 3
    have f4 := hRT.soft 4
    have lR := hRT.lt
    go_simp
    refine hK.out _ _ (((((hHeld.setCell ⟨w.heap.size, 0, none⟩ _ rfl).setCell ⟨w.heap.size, 1, none⟩ _ rfl).setCell ⟨w.heap.size, 2, none⟩ _ rfl).setCell ⟨w.heap.size, 3, none⟩ _ rfl).setCell ⟨w.heap.size, 4, none⟩ _ rfl) (fun hHeld => ?_)
    clear hK K
    try simp only [Act.put, List.setIfInBounds_toArray, List.set_cons_zero, List.set_cons_succ]
    refine wpAnyH_take (i := 14) (oi := { dst := some 3, op := Go.Op.assign (Go.Operand.tmp 82), type := 4, pos := "l03_write.go:214", after := #[{ on := 12, ground := Go.Ground.data }, { on := 13, ground := Go.Ground.chain }, { on := 0, ground := Go.Ground.phase }, { on := 1, ground := Go.Ground.phase }, { on := 2, ground := Go.Ground.phase }, { on := 3, ground := Go.Ground.phase }, { on := 4, ground := Go.Ground.phase }, { on := 5, ground := Go.Ground.phase }, { on := 6, ground := Go.Ground.phase }, { on := 7, ground := Go.Ground.phase }, { on := 8, ground := Go.Ground.phase }, { on := 9, ground := Go.Ground.phase }, { on := 10, ground := Go.Ground.phase }, { on := 11, ground := Go.Ground.phase }, { on := 12, ground := Go.Ground.phase }, { on := 13, ground := Go.Ground.phase }], guard := none }) (v := ?vr014) rfl (by kernel_rfl) (by kernel_rfl) (by kernel_rfl) (fun _ _ _ h => h) (Or.inl ⟨by rfl, ?hr014⟩) hHeld ?rr014
    case hr014 =>
      intro wS hSw
      (try dsimp only at hSw)
      go_simp
      try with_reducible rfl
    case rr014 =>
    simp only [Act.put, List.setIfInBounds_toArray, List.set_cons_zero, List.set_cons_succ]
    refine wpAnyH_done (by kernel_rfl) ?_ _
    refine NoPanic.normal ?_
    have hE : Ext (fun c => c = w.heap.size) wT (((((wT.setCell ⟨w.heap.size, 0, none⟩ (.int .i64 2)).setCell ⟨w.heap.size, 1, none⟩ (.int .i64 n1)).setCell ⟨w.heap.size, 2, none⟩ (.slice none 0 0)).setCell ⟨w.heap.size, 3, none⟩ (.int .i64 n2)).setCell ⟨w.heap.size, 4, none⟩ (.int .i64 n3)) := ((((((Ext.refl (fun c => c = w.heap.size) _).setCell ⟨w.heap.size, 0, none⟩ _ rfl).setCell ⟨w.heap.size, 1, none⟩ _ rfl).setCell ⟨w.heap.size, 2, none⟩ _ rfl).setCell ⟨w.heap.size, 3, none⟩ _ rfl).setCell ⟨w.heap.size, 4, none⟩ _ rfl)
    have hRZ := (((((hRT.set 0 (.int .i64 2)).set 1 (.int .i64 n1)).set 2 (.slice none 0 0)).set 3 (.int .i64 n2)).set 4 (.int .i64 n3))
    have z0 : (((((wT.setCell ⟨w.heap.size, 0, none⟩ (.int .i64 2)).setCell ⟨w.heap.size, 1, none⟩ (.int .i64 n1)).setCell ⟨w.heap.size, 2, none⟩ (.slice none 0 0)).setCell ⟨w.heap.size, 3, none⟩ (.int .i64 n2)).setCell ⟨w.heap.size, 4, none⟩ (.int .i64 n3)).cell? ⟨w.heap.size, 0, none⟩ = some (.int .i64 2) := hRZ.at 0 _ rfl
    have z1 : (((((wT.setCell ⟨w.heap.size, 0, none⟩ (.int .i64 2)).setCell ⟨w.heap.size, 1, none⟩ (.int .i64 n1)).setCell ⟨w.heap.size, 2, none⟩ (.slice none 0 0)).setCell ⟨w.heap.size, 3, none⟩ (.int .i64 n2)).setCell ⟨w.heap.size, 4, none⟩ (.int .i64 n3)).cell? ⟨w.heap.size, 1, none⟩ = some (.int .i64 n1) := hRZ.at 1 _ rfl
    have z2 : (((((wT.setCell ⟨w.heap.size, 0, none⟩ (.int .i64 2)).setCell ⟨w.heap.size, 1, none⟩ (.int .i64 n1)).setCell ⟨w.heap.size, 2, none⟩ (.slice none 0 0)).setCell ⟨w.heap.size, 3, none⟩ (.int .i64 n2)).setCell ⟨w.heap.size, 4, none⟩ (.int .i64 n3)).cell? ⟨w.heap.size, 2, none⟩ = some (.slice none 0 0) := hRZ.at 2 _ rfl
    have z3 : (((((wT.setCell ⟨w.heap.size, 0, none⟩ (.int .i64 2)).setCell ⟨w.heap.size, 1, none⟩ (.int .i64 n1)).setCell ⟨w.heap.size, 2, none⟩ (.slice none 0 0)).setCell ⟨w.heap.size, 3, none⟩ (.int .i64 n2)).setCell ⟨w.heap.size, 4, none⟩ (.int .i64 n3)).cell? ⟨w.heap.size, 3, none⟩ = some (.int .i64 n2) := hRZ.at 3 _ rfl
    have z4 : (((((wT.setCell ⟨w.heap.size, 0, none⟩ (.int .i64 2)).setCell ⟨w.heap.size, 1, none⟩ (.int .i64 n1)).setCell ⟨w.heap.size, 2, none⟩ (.slice none 0 0)).setCell ⟨w.heap.size, 3, none⟩ (.int .i64 n2)).setCell ⟨w.heap.size, 4, none⟩ (.int .i64 n3)).cell? ⟨w.heap.size, 4, none⟩ = some (.int .i64 n3) := hRZ.at 4 _ rfl
    have HBZ : Hid (Below w.heap.size w (((((wT.setCell ⟨w.heap.size, 0, none⟩ (.int .i64 2)).setCell ⟨w.heap.size, 1, none⟩ (.int .i64 n1)).setCell ⟨w.heap.size, 2, none⟩ (.slice none 0 0)).setCell ⟨w.heap.size, 3, none⟩ (.int .i64 n2)).setCell ⟨w.heap.size, 4, none⟩ (.int .i64 n3))) := (unhide HBT).trans (hE.below (by have := (unhide HBT).size; omega) (fun k hk e => by omega))
    clear hHeld hE hRZ hRT
    generalize (((((wT.setCell ⟨w.heap.size, 0, none⟩ (.int .i64 2)).setCell ⟨w.heap.size, 1, none⟩ (.int .i64 n1)).setCell ⟨w.heap.size, 2, none⟩ (.slice none 0 0)).setCell ⟨w.heap.size, 3, none⟩ (.int .i64 n2)).setCell ⟨w.heap.size, 4, none⟩ (.int .i64 n3)) = wZ at *
    go_wp2_with fail
    refine bodyPost_ret (v := .tuple #[.agg #[.int .i64 2, .int .i64 n1, .slice none 0 0, .int .i64 n2, .int .i64 n3], .bool false]) (by simp [results, Tryz.results23, go_sem, z0, z1, z2, z3, z4]) rfl ?_
    exact ⟨_, _, _, _, _, _, _, false, rfl, (fun h => by cases h), fun _ => by rw [unhide HL]; simp, unhide HBZ⟩
  | true =>
    cases o2 with
    | false =>
      have hRT : Box 0 #[.int .i64 0, .int .i64 0, .slice none 0 0, .int .i64 0, .int .i64 0] 27 w6.drew w.heap.size := hR
      have HBT := hide (unhide HB6).drew
      refine wp_region_noPanic ?_
      refine wp_region_held_drew (S := fun w' => Ext (fun c => c = w.heap.size) w6 w') (by kernel_rfl) ⟨rfl, rfl, rfl, Nat.le_refl _, fun _ _ _ => rfl⟩ (fun hHeld => ?_)
      generalize w6.drew = wT at hHeld hRT HBT ⊢
      refine wpAnyH_take (i := 0) (oi := { dst := some 70, op := Go.Op.load 27 (Go.Operand.tmp 14), type := 27, pos := "l03_write.go:214", after := #[], guard := none }) (v := ?vr10) rfl (by kernel_rfl) (by kernel_rfl) (by kernel_rfl) (fun _ _ _ h => h) (Or.inl ⟨by rfl, ?hr10⟩) hHeld ?rr10
      case hr10 =>
        intro wS hSw
        have y0 : wS.cell? ⟨pQ, 0, none⟩ = some (.int .i64 2) := (hQ.ext hSw (by omega)).at 0 _ rfl
        have y1 : wS.cell? ⟨pQ, 1, none⟩ = some (.int .i64 n1) := (hQ.ext hSw (by omega)).at 1 _ rfl
        have y2 : wS.cell? ⟨pQ, 2, none⟩ = some (.slice none 0 0) := (hQ.ext hSw (by omega)).at 2 _ rfl
        have y3 : wS.cell? ⟨pQ, 3, none⟩ = some (.int .i64 n2) := (hQ.ext hSw (by omega)).at 3 _ rfl
        have y4 : wS.cell? ⟨pQ, 4, none⟩ = some (.int .i64 n3) := (hQ.ext hSw (by omega)).at 4 _ rfl
        clear hSw
        (try dsimp only at hSw)
        go_simp
        try with_reducible rfl
      case rr10 =>
      simp only [Act.put, List.setIfInBounds_toArray, List.set_cons_zero, List.set_cons_succ]
      refine wpAnyH_take (i := 1) (oi := { dst := some 71, op := Go.Op.move (Go.Operand.tmp 9), type := 4, pos := "l03_write.go:214", after := #[], guard := none }) (v := ?vr11) rfl (by kernel_rfl) (by kernel_rfl) (by kernel_rfl) (fun _ _ _ h => h) (Or.inl ⟨by rfl, ?hr11⟩) hHeld ?rr11
      case hr11 =>
        intro wS hSw
        (try dsimp only at hSw)
        go_simp
        try with_reducible rfl
      case rr11 =>
      simp only [Act.put, List.setIfInBounds_toArray, List.set_cons_zero, List.set_cons_succ]
      refine wpAnyH_take (i := 2) (oi := { dst := some 72, op := Go.Op.move (Go.Operand.tmp 71), type := 4, pos := "l03_write.go:214", after := #[{ on := 1, ground := Go.Ground.data }], guard := none }) (v := ?vr12) rfl (by kernel_rfl) (by kernel_rfl) (by kernel_rfl) (fun _ _ _ h => h) (Or.inl ⟨by rfl, ?hr12⟩) hHeld ?rr12
      case hr12 =>
        intro wS hSw
        (try dsimp only at hSw)
        go_simp
        try with_reducible rfl
      case rr12 =>
      simp only [Act.put, List.setIfInBounds_toArray, List.set_cons_zero, List.set_cons_succ]
      refine wpAnyH_take (i := 3) (oi := { dst := some 73, op := Go.Op.move (Go.Operand.tmp 11), type := 4, pos := "l03_write.go:214", after := #[{ on := 2, ground := Go.Ground.guard }], guard := some (2, true) }) (v := ?vr13) rfl (by kernel_rfl) (by kernel_rfl) (by kernel_rfl) (fun _ _ _ h => h) (Or.inl ⟨by rfl, ?hr13⟩) hHeld ?rr13
      case hr13 =>
        intro wS hSw
        (try dsimp only at hSw)
        go_simp
        try with_reducible rfl
      case rr13 =>
      simp only [Act.put, List.setIfInBounds_toArray, List.set_cons_zero, List.set_cons_succ]
      refine wpAnyH_take (i := 4) (oi := { dst := some 74, op := Go.Op.pick (Go.Operand.tmp 72) (Go.Operand.tmp 73) (Go.Operand.const (Go.Value.bool false)), type := 4, pos := "l03_write.go:214", after := #[{ on := 2, ground := Go.Ground.data }, { on := 3, ground := Go.Ground.data }], guard := none }) (v := ?vr14) rfl (by kernel_rfl) (by kernel_rfl) (by kernel_rfl) (fun _ _ _ h => h) (Or.inl ⟨by rfl, ?hr14⟩) hHeld ?rr14
      case hr14 =>
        intro wS hSw
        (try dsimp only at hSw)
        go_simp
        try with_reducible rfl
      case rr14 =>
      simp only [Act.put, List.setIfInBounds_toArray, List.set_cons_zero, List.set_cons_succ]
      refine wpAnyH_take (i := 5) (oi := { dst := some 75, op := Go.Op.move (Go.Operand.tmp 74), type := 4, pos := "l03_write.go:214", after := #[{ on := 4, ground := Go.Ground.data }, { on := 2, ground := Go.Ground.chain }], guard := none }) (v := ?vr15) rfl (by kernel_rfl) (by kernel_rfl) (by kernel_rfl) (fun _ _ _ h => h) (Or.inl ⟨by rfl, ?hr15⟩) hHeld ?rr15
      case hr15 =>
        intro wS hSw
        (try dsimp only at hSw)
        go_simp
        try with_reducible rfl
      case rr15 =>
      simp only [Act.put, List.setIfInBounds_toArray, List.set_cons_zero, List.set_cons_succ]
      refine wpAnyH_take (i := 6) (oi := { dst := some 76, op := Go.Op.move (Go.Operand.tmp 13), type := 4, pos := "l03_write.go:214", after := #[{ on := 5, ground := Go.Ground.guard }], guard := some (5, true) }) (v := undef) rfl (by kernel_rfl) (by kernel_rfl) (by kernel_rfl) (fun _ _ _ h => h) (Or.inr ⟨by rfl, rfl⟩) hHeld ?_
      simp only [Act.put, List.setIfInBounds_toArray, List.set_cons_zero, List.set_cons_succ]
      refine wpAnyH_take (i := 7) (oi := { dst := some 77, op := Go.Op.pick (Go.Operand.tmp 75) (Go.Operand.tmp 76) (Go.Operand.const (Go.Value.bool false)), type := 4, pos := "l03_write.go:214", after := #[{ on := 5, ground := Go.Ground.data }, { on := 6, ground := Go.Ground.data }], guard := none }) (v := ?vr17) rfl (by kernel_rfl) (by kernel_rfl) (by kernel_rfl) (fun _ _ _ h => h) (Or.inl ⟨by rfl, ?hr17⟩) hHeld ?rr17
      case hr17 =>
        intro wS hSw
        (try dsimp only at hSw)
        go_simp
        try with_reducible rfl
      case rr17 =>
      simp only [Act.put, List.setIfInBounds_toArray, List.set_cons_zero, List.set_cons_succ]
      refine wpAnyH_take (i := 8) (oi := { dst := some 78, op := Go.Op.move (Go.Operand.tmp 77), type := 4, pos := "l03_write.go:214", after := #[{ on := 7, ground := Go.Ground.data }, { on := 5, ground := Go.Ground.chain }], guard := none }) (v := ?vr18) rfl (by kernel_rfl) (by kernel_rfl) (by kernel_rfl) (fun _ _ _ h => h) (Or.inl ⟨by rfl, ?hr18⟩) hHeld ?rr18
      case hr18 =>
        intro wS hSw
        (try dsimp only at hSw)
        go_simp
        try with_reducible rfl
      case rr18 =>
      simp only [Act.put, List.setIfInBounds_toArray, List.set_cons_zero, List.set_cons_succ]
      refine wpAnyH_take (i := 9) (oi := { dst := some 79, op := Go.Op.load 27 (Go.Operand.tmp 14), type := 27, pos := "l03_write.go:214", after := #[{ on := 8, ground := Go.Ground.guard }], guard := some (8, true) }) (v := undef) rfl (by kernel_rfl) (by kernel_rfl) (by kernel_rfl) (fun _ _ _ h => h) (Or.inr ⟨by rfl, rfl⟩) hHeld ?_
      simp only [Act.put, List.setIfInBounds_toArray, List.set_cons_zero, List.set_cons_succ]
      refine wpAnyH_take (i := 10) (oi := { dst := some 80, op := Go.Op.call { callee := Go.Callee.value (Go.Operand.func 16), args := #[Go.Operand.tmp 79], argTypes := #[27] }, type := 2, pos := "l03_write.go:214", after := #[{ on := 9, ground := Go.Ground.data }, { on := 8, ground := Go.Ground.chain }, { on := 8, ground := Go.Ground.guard }], guard := some (8, true) }) (v := undef) rfl (by kernel_rfl) (by kernel_rfl) (by kernel_rfl) (fun _ _ _ h => h) (Or.inr ⟨by rfl, rfl⟩) hHeld ?_
      simp only [Act.put, List.setIfInBounds_toArray, List.set_cons_zero, List.set_cons_succ]
      refine wpAnyH_take (i := 11) (oi := { dst := some 81, op := Go.Op.binOp Go.BinOp.eql 2 (Go.Operand.tmp 80) (Go.Operand.const (Go.Value.int Go.IntKind.i64 0)) 2, type := 4, pos := "l03_write.go:214", after := #[{ on := 10, ground := Go.Ground.data }, { on := 8, ground := Go.Ground.guard }, { on := 13, ground := Go.Ground.gcOnly Go.Departure.lateStores }], guard := some (8, true) }) (v := undef) rfl (by kernel_rfl) (by kernel_rfl) (by kernel_rfl) (fun _ _ _ h => h) (Or.inr ⟨by rfl, rfl⟩) hHeld ?_
      simp only [Act.put, List.setIfInBounds_toArray, List.set_cons_zero, List.set_cons_succ]
      refine wpAnyH_take (i := 12) (oi := { dst := some 82, op := Go.Op.pick (Go.Operand.tmp 78) (Go.Operand.tmp 81) (Go.Operand.const (Go.Value.bool false)), type := 4, pos := "l03_write.go:214", after := #[{ on := 8, ground := Go.Ground.data }, { on := 11, ground := Go.Ground.data }, { on := 13, ground := Go.Ground.gcOnly Go.Departure.lateStores }], guard := none }) (v := ?vr112) rfl (by kernel_rfl) (by kernel_rfl) (by kernel_rfl) (fun _ _ _ h => h) (Or.inl ⟨by rfl, ?hr112⟩) hHeld ?rr112
      case hr112 =>
        intro wS hSw
        (try dsimp only at hSw)
        go_simp
        try with_reducible rfl
      case rr112 =>
      simp only [Act.put, List.setIfInBounds_toArray, List.set_cons_zero, List.set_cons_succ]
      refine wpAnyH_ready (rs := [13]) (by kernel_rfl) (by simp) ?_
      refine AllReadyH.cons (o := { dst := none, op := Go.Op.store 27 (Go.Operand.tmp 2) (Go.Operand.tmp 70), type := 0, pos := "l03_write.go:214", after := #[{ on := 0, ground := Go.Ground.data }, { on := 10, ground := Go.Ground.chain }, { on := 0, ground := Go.Ground.phase }, { on := 1, ground := Go.Ground.textOnly Go.Departure.lateStores }, { on := 2, ground := Go.Ground.textOnly Go.Departure.lateStores }, { on := 3, ground := Go.Ground.textOnly Go.Departure.lateStores }, { on := 4, ground := Go.Ground.textOnly Go.Departure.lateStores }, { on := 5, ground := Go.Ground.textOnly Go.Departure.lateStores }, { on := 6, ground := Go.Ground.textOnly Go.Departure.lateStores }, { on := 7, ground := Go.Ground.textOnly Go.Departure.lateStores }, { on := 8, ground := Go.Ground.textOnly Go.Departure.lateStores }, { on := 9, ground := Go.Ground.textOnly Go.Departure.lateStores }, { on := 10, ground := Go.Ground.textOnly Go.Departure.lateStoresUnsure }, { on := 11, ground := Go.Ground.textOnly Go.Departure.lateStores }, { on := 12, ground := Go.Ground.textOnly Go.Departure.lateStores }], guard := none }) rfl (fun K hK => ?_) AllReadyH.nil
      have z0 : wT.cell? ⟨w.heap.size, 0, none⟩ = some (.int .i64 0) := (hRT).at 0 _ rfl
      have z1 : wT.cell? ⟨w.heap.size, 1, none⟩ = some (.int .i64 0) := (hRT).at 1 _ rfl
      have z2 : wT.cell? ⟨w.heap.size, 2, none⟩ = some (.slice none 0 0) := (hRT).at 2 _ rfl
      have z3 : wT.cell? ⟨w.heap.size, 3, none⟩ = some (.int .i64 0) := (hRT).at 3 _ rfl
      have z4 : wT.cell? ⟨w.heap.size, 4, none⟩ = some (.int .i64 0) := (hRT).at 4 _ rfl
      have f0 := hRT.soft 0
      have f1 := hRT.soft 1
      have f2 := hRT.soft 2
      have f3 := hRT.soft 3
      have f4 := hRT.soft 4
      have lR := hRT.lt
      go_simp
      refine hK.out _ _ (((((hHeld.setCell ⟨w.heap.size, 0, none⟩ _ rfl).setCell ⟨w.heap.size, 1, none⟩ _ rfl).setCell ⟨w.heap.size, 2, none⟩ _ rfl).setCell ⟨w.heap.size, 3, none⟩ _ rfl).setCell ⟨w.heap.size, 4, none⟩ _ rfl) (fun hHeld => ?_)
      clear hK K
      try simp only [Act.put, List.setIfInBounds_toArray, List.set_cons_zero, List.set_cons_succ]
      refine wpAnyH_take (i := 14) (oi := { dst := some 3, op := Go.Op.assign (Go.Operand.tmp 82), type := 4, pos := "l03_write.go:214", after := #[{ on := 12, ground := Go.Ground.data }, { on := 13, ground := Go.Ground.chain }, { on := 0, ground := Go.Ground.phase }, { on := 1, ground := Go.Ground.phase }, { on := 2, ground := Go.Ground.phase }, { on := 3, ground := Go.Ground.phase }, { on := 4, ground := Go.Ground.phase }, { on := 5, ground := Go.Ground.phase }, { on := 6, ground := Go.Ground.phase }, { on := 7, ground := Go.Ground.phase }, { on := 8, ground := Go.Ground.phase }, { on := 9, ground := Go.Ground.phase }, { on := 10, ground := Go.Ground.phase }, { on := 11, ground := Go.Ground.phase }, { on := 12, ground := Go.Ground.phase }, { on := 13, ground := Go.Ground.phase }], guard := none }) (v := ?vr114) rfl (by kernel_rfl) (by kernel_rfl) (by kernel_rfl) (fun _ _ _ h => h) (Or.inl ⟨by rfl, ?hr114⟩) hHeld ?rr114
      case hr114 =>
        intro wS hSw
        (try dsimp only at hSw)
        go_simp
        try with_reducible rfl
      case rr114 =>
      simp only [Act.put, List.setIfInBounds_toArray, List.set_cons_zero, List.set_cons_succ]
      refine wpAnyH_done (by kernel_rfl) ?_ _
      refine NoPanic.normal ?_
      have hE : Ext (fun c => c = w.heap.size) wT (((((wT.setCell ⟨w.heap.size, 0, none⟩ (.int .i64 2)).setCell ⟨w.heap.size, 1, none⟩ (.int .i64 n1)).setCell ⟨w.heap.size, 2, none⟩ (.slice none 0 0)).setCell ⟨w.heap.size, 3, none⟩ (.int .i64 n2)).setCell ⟨w.heap.size, 4, none⟩ (.int .i64 n3)) := ((((((Ext.refl (fun c => c = w.heap.size) _).setCell ⟨w.heap.size, 0, none⟩ _ rfl).setCell ⟨w.heap.size, 1, none⟩ _ rfl).setCell ⟨w.heap.size, 2, none⟩ _ rfl).setCell ⟨w.heap.size, 3, none⟩ _ rfl).setCell ⟨w.heap.size, 4, none⟩ _ rfl)
      have hRZ := (((((hRT.set 0 (.int .i64 2)).set 1 (.int .i64 n1)).set 2 (.slice none 0 0)).set 3 (.int .i64 n2)).set 4 (.int .i64 n3))
      have z0 : (((((wT.setCell ⟨w.heap.size, 0, none⟩ (.int .i64 2)).setCell ⟨w.heap.size, 1, none⟩ (.int .i64 n1)).setCell ⟨w.heap.size, 2, none⟩ (.slice none 0 0)).setCell ⟨w.heap.size, 3, none⟩ (.int .i64 n2)).setCell ⟨w.heap.size, 4, none⟩ (.int .i64 n3)).cell? ⟨w.heap.size, 0, none⟩ = some (.int .i64 2) := hRZ.at 0 _ rfl
      have z1 : (((((wT.setCell ⟨w.heap.size, 0, none⟩ (.int .i64 2)).setCell ⟨w.heap.size, 1, none⟩ (.int .i64 n1)).setCell ⟨w.heap.size, 2, none⟩ (.slice none 0 0)).setCell ⟨w.heap.size, 3, none⟩ (.int .i64 n2)).setCell ⟨w.heap.size, 4, none⟩ (.int .i64 n3)).cell? ⟨w.heap.size, 1, none⟩ = some (.int .i64 n1) := hRZ.at 1 _ rfl
      have z2 : (((((wT.setCell ⟨w.heap.size, 0, none⟩ (.int .i64 2)).setCell ⟨w.heap.size, 1, none⟩ (.int .i64 n1)).setCell ⟨w.heap.size, 2, none⟩ (.slice none 0 0)).setCell ⟨w.heap.size, 3, none⟩ (.int .i64 n2)).setCell ⟨w.heap.size, 4, none⟩ (.int .i64 n3)).cell? ⟨w.heap.size, 2, none⟩ = some (.slice none 0 0) := hRZ.at 2 _ rfl
      have z3 : (((((wT.setCell ⟨w.heap.size, 0, none⟩ (.int .i64 2)).setCell ⟨w.heap.size, 1, none⟩ (.int .i64 n1)).setCell ⟨w.heap.size, 2, none⟩ (.slice none 0 0)).setCell ⟨w.heap.size, 3, none⟩ (.int .i64 n2)).setCell ⟨w.heap.size, 4, none⟩ (.int .i64 n3)).cell? ⟨w.heap.size, 3, none⟩ = some (.int .i64 n2) := hRZ.at 3 _ rfl
      have z4 : (((((wT.setCell ⟨w.heap.size, 0, none⟩ (.int .i64 2)).setCell ⟨w.heap.size, 1, none⟩ (.int .i64 n1)).setCell ⟨w.heap.size, 2, none⟩ (.slice none 0 0)).setCell ⟨w.heap.size, 3, none⟩ (.int .i64 n2)).setCell ⟨w.heap.size, 4, none⟩ (.int .i64 n3)).cell? ⟨w.heap.size, 4, none⟩ = some (.int .i64 n3) := hRZ.at 4 _ rfl
      have HBZ : Hid (Below w.heap.size w (((((wT.setCell ⟨w.heap.size, 0, none⟩ (.int .i64 2)).setCell ⟨w.heap.size, 1, none⟩ (.int .i64 n1)).setCell ⟨w.heap.size, 2, none⟩ (.slice none 0 0)).setCell ⟨w.heap.size, 3, none⟩ (.int .i64 n2)).setCell ⟨w.heap.size, 4, none⟩ (.int .i64 n3))) := (unhide HBT).trans (hE.below (by have := (unhide HBT).size; omega) (fun k hk e => by omega))
      clear hHeld hE hRZ hRT
      generalize (((((wT.setCell ⟨w.heap.size, 0, none⟩ (.int .i64 2)).setCell ⟨w.heap.size, 1, none⟩ (.int .i64 n1)).setCell ⟨w.heap.size, 2, none⟩ (.slice none 0 0)).setCell ⟨w.heap.size, 3, none⟩ (.int .i64 n2)).setCell ⟨w.heap.size, 4, none⟩ (.int .i64 n3)) = wZ at *
      go_wp2_with fail
      refine bodyPost_ret (v := .tuple #[.agg #[.int .i64 2, .int .i64 n1, .slice none 0 0, .int .i64 n2, .int .i64 n3], .bool false]) (by simp [results, Tryz.results23, go_sem, z0, z1, z2, z3, z4]) rfl ?_
      exact ⟨_, _, _, _, _, _, _, false, rfl, (fun h => by cases h), fun _ => by rw [unhide HL]; simp, unhide HBZ⟩
    | true =>
      cases o3 with
      | false =>
        have hRT : Box 0 #[.int .i64 0, .int .i64 0, .slice none 0 0, .int .i64 0, .int .i64 0] 27 w6.drew w.heap.size := hR
        have HBT := hide (unhide HB6).drew
        refine wp_region_noPanic ?_
        refine wp_region_held_drew (S := fun w' => Ext (fun c => c = w.heap.size) w6 w') (by kernel_rfl) ⟨rfl, rfl, rfl, Nat.le_refl _, fun _ _ _ => rfl⟩ (fun hHeld => ?_)
        generalize w6.drew = wT at hHeld hRT HBT ⊢
        refine wpAnyH_take (i := 0) (oi := { dst := some 70, op := Go.Op.load 27 (Go.Operand.tmp 14), type := 27, pos := "l03_write.go:214", after := #[], guard := none }) (v := ?vr20) rfl (by kernel_rfl) (by kernel_rfl) (by kernel_rfl) (fun _ _ _ h => h) (Or.inl ⟨by rfl, ?hr20⟩) hHeld ?rr20
        case hr20 =>
          intro wS hSw
          have y0 : wS.cell? ⟨pQ, 0, none⟩ = some (.int .i64 2) := (hQ.ext hSw (by omega)).at 0 _ rfl
          have y1 : wS.cell? ⟨pQ, 1, none⟩ = some (.int .i64 n1) := (hQ.ext hSw (by omega)).at 1 _ rfl
          have y2 : wS.cell? ⟨pQ, 2, none⟩ = some (.slice none 0 0) := (hQ.ext hSw (by omega)).at 2 _ rfl
          have y3 : wS.cell? ⟨pQ, 3, none⟩ = some (.int .i64 n2) := (hQ.ext hSw (by omega)).at 3 _ rfl
          have y4 : wS.cell? ⟨pQ, 4, none⟩ = some (.int .i64 n3) := (hQ.ext hSw (by omega)).at 4 _ rfl
          clear hSw
          (try dsimp only at hSw)
          go_simp
          try with_reducible rfl
        case rr20 =>
        simp only [Act.put, List.setIfInBounds_toArray, List.set_cons_zero, List.set_cons_succ]
        refine wpAnyH_take (i := 1) (oi := { dst := some 71, op := Go.Op.move (Go.Operand.tmp 9), type := 4, pos := "l03_write.go:214", after := #[], guard := none }) (v := ?vr21) rfl (by kernel_rfl) (by kernel_rfl) (by kernel_rfl) (fun _ _ _ h => h) (Or.inl ⟨by rfl, ?hr21⟩) hHeld ?rr21
        case hr21 =>
          intro wS hSw
          (try dsimp only at hSw)
          go_simp
          try with_reducible rfl
        case rr21 =>
        simp only [Act.put, List.setIfInBounds_toArray, List.set_cons_zero, List.set_cons_succ]
        refine wpAnyH_take (i := 2) (oi := { dst := some 72, op := Go.Op.move (Go.Operand.tmp 71), type := 4, pos := "l03_write.go:214", after := #[{ on := 1, ground := Go.Ground.data }], guard := none }) (v := ?vr22) rfl (by kernel_rfl) (by kernel_rfl) (by kernel_rfl) (fun _ _ _ h => h) (Or.inl ⟨by rfl, ?hr22⟩) hHeld ?rr22
        case hr22 =>
          intro wS hSw
          (try dsimp only at hSw)
          go_simp
          try with_reducible rfl
        case rr22 =>
        simp only [Act.put, List.setIfInBounds_toArray, List.set_cons_zero, List.set_cons_succ]
        refine wpAnyH_take (i := 3) (oi := { dst := some 73, op := Go.Op.move (Go.Operand.tmp 11), type := 4, pos := "l03_write.go:214", after := #[{ on := 2, ground := Go.Ground.guard }], guard := some (2, true) }) (v := ?vr23) rfl (by kernel_rfl) (by kernel_rfl) (by kernel_rfl) (fun _ _ _ h => h) (Or.inl ⟨by rfl, ?hr23⟩) hHeld ?rr23
        case hr23 =>
          intro wS hSw
          (try dsimp only at hSw)
          go_simp
          try with_reducible rfl
        case rr23 =>
        simp only [Act.put, List.setIfInBounds_toArray, List.set_cons_zero, List.set_cons_succ]
        refine wpAnyH_take (i := 4) (oi := { dst := some 74, op := Go.Op.pick (Go.Operand.tmp 72) (Go.Operand.tmp 73) (Go.Operand.const (Go.Value.bool false)), type := 4, pos := "l03_write.go:214", after := #[{ on := 2, ground := Go.Ground.data }, { on := 3, ground := Go.Ground.data }], guard := none }) (v := ?vr24) rfl (by kernel_rfl) (by kernel_rfl) (by kernel_rfl) (fun _ _ _ h => h) (Or.inl ⟨by rfl, ?hr24⟩) hHeld ?rr24
        case hr24 =>
          intro wS hSw
          (try dsimp only at hSw)
          go_simp
          try with_reducible rfl
        case rr24 =>
        simp only [Act.put, List.setIfInBounds_toArray, List.set_cons_zero, List.set_cons_succ]
        refine wpAnyH_take (i := 5) (oi := { dst := some 75, op := Go.Op.move (Go.Operand.tmp 74), type := 4, pos := "l03_write.go:214", after := #[{ on := 4, ground := Go.Ground.data }, { on := 2, ground := Go.Ground.chain }], guard := none }) (v := ?vr25) rfl (by kernel_rfl) (by kernel_rfl) (by kernel_rfl) (fun _ _ _ h => h) (Or.inl ⟨by rfl, ?hr25⟩) hHeld ?rr25
        case hr25 =>
          intro wS hSw
          (try dsimp only at hSw)
          go_simp
          try with_reducible rfl
        case rr25 =>
        simp only [Act.put, List.setIfInBounds_toArray, List.set_cons_zero, List.set_cons_succ]
        refine wpAnyH_take (i := 6) (oi := { dst := some 76, op := Go.Op.move (Go.Operand.tmp 13), type := 4, pos := "l03_write.go:214", after := #[{ on := 5, ground := Go.Ground.guard }], guard := some (5, true) }) (v := ?vr26) rfl (by kernel_rfl) (by kernel_rfl) (by kernel_rfl) (fun _ _ _ h => h) (Or.inl ⟨by rfl, ?hr26⟩) hHeld ?rr26
        case hr26 =>
          intro wS hSw
          (try dsimp only at hSw)
          go_simp
          try with_reducible rfl
        case rr26 =>
        simp only [Act.put, List.setIfInBounds_toArray, List.set_cons_zero, List.set_cons_succ]
        refine wpAnyH_take (i := 7) (oi := { dst := some 77, op := Go.Op.pick (Go.Operand.tmp 75) (Go.Operand.tmp 76) (Go.Operand.const (Go.Value.bool false)), type := 4, pos := "l03_write.go:214", after := #[{ on := 5, ground := Go.Ground.data }, { on := 6, ground := Go.Ground.data }], guard := none }) (v := ?vr27) rfl (by kernel_rfl) (by kernel_rfl) (by kernel_rfl) (fun _ _ _ h => h) (Or.inl ⟨by rfl, ?hr27⟩) hHeld ?rr27
        case hr27 =>
          intro wS hSw
          (try dsimp only at hSw)
          go_simp
          try with_reducible rfl
        case rr27 =>
        simp only [Act.put, List.setIfInBounds_toArray, List.set_cons_zero, List.set_cons_succ]
        refine wpAnyH_take (i := 8) (oi := { dst := some 78, op := Go.Op.move (Go.Operand.tmp 77), type := 4, pos := "l03_write.go:214", after := #[{ on := 7, ground := Go.Ground.data }, { on := 5, ground := Go.Ground.chain }], guard := none }) (v := ?vr28) rfl (by kernel_rfl) (by kernel_rfl) (by kernel_rfl) (fun _ _ _ h => h) (Or.inl ⟨by rfl, ?hr28⟩) hHeld ?rr28
        case hr28 =>
          intro wS hSw
          (try dsimp only at hSw)
          go_simp
          try with_reducible rfl
        case rr28 =>
        simp only [Act.put, List.setIfInBounds_toArray, List.set_cons_zero, List.set_cons_succ]
        refine wpAnyH_take (i := 9) (oi := { dst := some 79, op := Go.Op.load 27 (Go.Operand.tmp 14), type := 27, pos := "l03_write.go:214", after := #[{ on := 8, ground := Go.Ground.guard }], guard := some (8, true) }) (v := undef) rfl (by kernel_rfl) (by kernel_rfl) (by kernel_rfl) (fun _ _ _ h => h) (Or.inr ⟨by rfl, rfl⟩) hHeld ?_
        simp only [Act.put, List.setIfInBounds_toArray, List.set_cons_zero, List.set_cons_succ]
        refine wpAnyH_take (i := 10) (oi := { dst := some 80, op := Go.Op.call { callee := Go.Callee.value (Go.Operand.func 16), args := #[Go.Operand.tmp 79], argTypes := #[27] }, type := 2, pos := "l03_write.go:214", after := #[{ on := 9, ground := Go.Ground.data }, { on := 8, ground := Go.Ground.chain }, { on := 8, ground := Go.Ground.guard }], guard := some (8, true) }) (v := undef) rfl (by kernel_rfl) (by kernel_rfl) (by kernel_rfl) (fun _ _ _ h => h) (Or.inr ⟨by rfl, rfl⟩) hHeld ?_
        simp only [Act.put, List.setIfInBounds_toArray, List.set_cons_zero, List.set_cons_succ]
        refine wpAnyH_take (i := 11) (oi := { dst := some 81, op := Go.Op.binOp Go.BinOp.eql 2 (Go.Operand.tmp 80) (Go.Operand.const (Go.Value.int Go.IntKind.i64 0)) 2, type := 4, pos := "l03_write.go:214", after := #[{ on := 10, ground := Go.Ground.data }, { on := 8, ground := Go.Ground.guard }, { on := 13, ground := Go.Ground.gcOnly Go.Departure.lateStores }], guard := some (8, true) }) (v := undef) rfl (by kernel_rfl) (by kernel_rfl) (by kernel_rfl) (fun _ _ _ h => h) (Or.inr ⟨by rfl, rfl⟩) hHeld ?_
        simp only [Act.put, List.setIfInBounds_toArray, List.set_cons_zero, List.set_cons_succ]
        refine wpAnyH_take (i := 12) (oi := { dst := some 82, op := Go.Op.pick (Go.Operand.tmp 78) (Go.Operand.tmp 81) (Go.Operand.const (Go.Value.bool false)), type := 4, pos := "l03_write.go:214", after := #[{ on := 8, ground := Go.Ground.data }, { on := 11, ground := Go.Ground.data }, { on := 13, ground := Go.Ground.gcOnly Go.Departure.lateStores }], guard := none }) (v := ?vr212) rfl (by kernel_rfl) (by kernel_rfl) (by kernel_rfl) (fun _ _ _ h => h) (Or.inl ⟨by rfl, ?hr212⟩) hHeld ?rr212
        case hr212 =>
          intro wS hSw
          (try dsimp only at hSw)
          go_simp
          try with_reducible rfl
        case rr212 =>
        simp only [Act.put, List.setIfInBounds_toArray, List.set_cons_zero, List.set_cons_succ]
        refine wpAnyH_ready (rs := [13]) (by kernel_rfl) (by simp) ?_
        refine AllReadyH.cons (o := { dst := none, op := Go.Op.store 27 (Go.Operand.tmp 2) (Go.Operand.tmp 70), type := 0, pos := "l03_write.go:214", after := #[{ on := 0, ground := Go.Ground.data }, { on := 10, ground := Go.Ground.chain }, { on := 0, ground := Go.Ground.phase }, { on := 1, ground := Go.Ground.textOnly Go.Departure.lateStores }, { on := 2, ground := Go.Ground.textOnly Go.Departure.lateStores }, { on := 3, ground := Go.Ground.textOnly Go.Departure.lateStores }, { on := 4, ground := Go.Ground.textOnly Go.Departure.lateStores }, { on := 5, ground := Go.Ground.textOnly Go.Departure.lateStores }, { on := 6, ground := Go.Ground.textOnly Go.Departure.lateStores }, { on := 7, ground := Go.Ground.textOnly Go.Departure.lateStores }, { on := 8, ground := Go.Ground.textOnly Go.Departure.lateStores }, { on := 9, ground := Go.Ground.textOnly Go.Departure.lateStores }, { on := 10, ground := Go.Ground.textOnly Go.Departure.lateStoresUnsure }, { on := 11, ground := Go.Ground.textOnly Go.Departure.lateStores }, { on := 12, ground := Go.Ground.textOnly Go.Departure.lateStores }], guard := none }) rfl (fun K hK => ?_) AllReadyH.nil
        have z0 : wT.cell? ⟨w.heap.size, 0, none⟩ = some (.int .i64 0) := (hRT).at 0 _ rfl
        have z1 : wT.cell? ⟨w.heap.size, 1, none⟩ = some (.int .i64 0) := (hRT).at 1 _ rfl
        have z2 : wT.cell? ⟨w.heap.size, 2, none⟩ = some (.slice none 0 0) := (hRT).at 2 _ rfl
        have z3 : wT.cell? ⟨w.heap.size, 3, none⟩ = some (.int .i64 0) := (hRT).at 3 _ rfl
        have z4 : wT.cell? ⟨w.heap.size, 4, none⟩ = some (.int .i64 0) := (hRT).at 4 _ rfl
        have f0 := hRT.soft 0
        have f1 := hRT.soft 1
        have f2 := hRT.soft 2
        have f3 := hRT.soft 3
        have f4 := hRT.soft 4
        have lR := hRT.lt
        go_simp
        refine hK.out _ _ (((((hHeld.setCell ⟨w.heap.size, 0, none⟩ _ rfl).setCell ⟨w.heap.size, 1, none⟩ _ rfl).setCell ⟨w.heap.size, 2, none⟩ _ rfl).setCell ⟨w.heap.size, 3, none⟩ _ rfl).setCell ⟨w.heap.size, 4, none⟩ _ rfl) (fun hHeld => ?_)
        clear hK K
        try simp only [Act.put, List.setIfInBounds_toArray, List.set_cons_zero, List.set_cons_succ]
        refine wpAnyH_take (i := 14) (oi := { dst := some 3, op := Go.Op.assign (Go.Operand.tmp 82), type := 4, pos := "l03_write.go:214", after := #[{ on := 12, ground := Go.Ground.data }, { on := 13, ground := Go.Ground.chain }, { on := 0, ground := Go.Ground.phase }, { on := 1, ground := Go.Ground.phase }, { on := 2, ground := Go.Ground.phase }, { on := 3, ground := Go.Ground.phase }, { on := 4, ground := Go.Ground.phase }, { on := 5, ground := Go.Ground.phase }, { on := 6, ground := Go.Ground.phase }, { on := 7, ground := Go.Ground.phase }, { on := 8, ground := Go.Ground.phase }, { on := 9, ground := Go.Ground.phase }, { on := 10, ground := Go.Ground.phase }, { on := 11, ground := Go.Ground.phase }, { on := 12, ground := Go.Ground.phase }, { on := 13, ground := Go.Ground.phase }], guard := none }) (v := ?vr214) rfl (by kernel_rfl) (by kernel_rfl) (by kernel_rfl) (fun _ _ _ h => h) (Or.inl ⟨by rfl, ?hr214⟩) hHeld ?rr214
        case hr214 =>
          intro wS hSw
          (try dsimp only at hSw)
          go_simp
          try with_reducible rfl
        case rr214 =>
        simp only [Act.put, List.setIfInBounds_toArray, List.set_cons_zero, List.set_cons_succ]
        refine wpAnyH_done (by kernel_rfl) ?_ _
        refine NoPanic.normal ?_
        have hE : Ext (fun c => c = w.heap.size) wT (((((wT.setCell ⟨w.heap.size, 0, none⟩ (.int .i64 2)).setCell ⟨w.heap.size, 1, none⟩ (.int .i64 n1)).setCell ⟨w.heap.size, 2, none⟩ (.slice none 0 0)).setCell ⟨w.heap.size, 3, none⟩ (.int .i64 n2)).setCell ⟨w.heap.size, 4, none⟩ (.int .i64 n3)) := ((((((Ext.refl (fun c => c = w.heap.size) _).setCell ⟨w.heap.size, 0, none⟩ _ rfl).setCell ⟨w.heap.size, 1, none⟩ _ rfl).setCell ⟨w.heap.size, 2, none⟩ _ rfl).setCell ⟨w.heap.size, 3, none⟩ _ rfl).setCell ⟨w.heap.size, 4, none⟩ _ rfl)
        have hRZ := (((((hRT.set 0 (.int .i64 2)).set 1 (.int .i64 n1)).set 2 (.slice none 0 0)).set 3 (.int .i64 n2)).set 4 (.int .i64 n3))
        have z0 : (((((wT.setCell ⟨w.heap.size, 0, none⟩ (.int .i64 2)).setCell ⟨w.heap.size, 1, none⟩ (.int .i64 n1)).setCell ⟨w.heap.size, 2, none⟩ (.slice none 0 0)).setCell ⟨w.heap.size, 3, none⟩ (.int .i64 n2)).setCell ⟨w.heap.size, 4, none⟩ (.int .i64 n3)).cell? ⟨w.heap.size, 0, none⟩ = some (.int .i64 2) := hRZ.at 0 _ rfl
        have z1 : (((((wT.setCell ⟨w.heap.size, 0, none⟩ (.int .i64 2)).setCell ⟨w.heap.size, 1, none⟩ (.int .i64 n1)).setCell ⟨w.heap.size, 2, none⟩ (.slice none 0 0)).setCell ⟨w.heap.size, 3, none⟩ (.int .i64 n2)).setCell ⟨w.heap.size, 4, none⟩ (.int .i64 n3)).cell? ⟨w.heap.size, 1, none⟩ = some (.int .i64 n1) := hRZ.at 1 _ rfl
        have z2 : (((((wT.setCell ⟨w.heap.size, 0, none⟩ (.int .i64 2)).setCell ⟨w.heap.size, 1, none⟩ (.int .i64 n1)).setCell ⟨w.heap.size, 2, none⟩ (.slice none 0 0)).setCell ⟨w.heap.size, 3, none⟩ (.int .i64 n2)).setCell ⟨w.heap.size, 4, none⟩ (.int .i64 n3)).cell? ⟨w.heap.size, 2, none⟩ = some (.slice none 0 0) := hRZ.at 2 _ rfl
        have z3 : (((((wT.setCell ⟨w.heap.size, 0, none⟩ (.int .i64 2)).setCell ⟨w.heap.size, 1, none⟩ (.int .i64 n1)).setCell ⟨w.heap.size, 2, none⟩ (.slice none 0 0)).setCell ⟨w.heap.size, 3, none⟩ (.int .i64 n2)).setCell ⟨w.heap.size, 4, none⟩ (.int .i64 n3)).cell? ⟨w.heap.size, 3, none⟩ = some (.int .i64 n2) := hRZ.at 3 _ rfl
        have z4 : (((((wT.setCell ⟨w.heap.size, 0, none⟩ (.int .i64 2)).setCell ⟨w.heap.size, 1, none⟩ (.int .i64 n1)).setCell ⟨w.heap.size, 2, none⟩ (.slice none 0 0)).setCell ⟨w.heap.size, 3, none⟩ (.int .i64 n2)).setCell ⟨w.heap.size, 4, none⟩ (.int .i64 n3)).cell? ⟨w.heap.size, 4, none⟩ = some (.int .i64 n3) := hRZ.at 4 _ rfl
        have HBZ : Hid (Below w.heap.size w (((((wT.setCell ⟨w.heap.size, 0, none⟩ (.int .i64 2)).setCell ⟨w.heap.size, 1, none⟩ (.int .i64 n1)).setCell ⟨w.heap.size, 2, none⟩ (.slice none 0 0)).setCell ⟨w.heap.size, 3, none⟩ (.int .i64 n2)).setCell ⟨w.heap.size, 4, none⟩ (.int .i64 n3))) := (unhide HBT).trans (hE.below (by have := (unhide HBT).size; omega) (fun k hk e => by omega))
        clear hHeld hE hRZ hRT
        generalize (((((wT.setCell ⟨w.heap.size, 0, none⟩ (.int .i64 2)).setCell ⟨w.heap.size, 1, none⟩ (.int .i64 n1)).setCell ⟨w.heap.size, 2, none⟩ (.slice none 0 0)).setCell ⟨w.heap.size, 3, none⟩ (.int .i64 n2)).setCell ⟨w.heap.size, 4, none⟩ (.int .i64 n3)) = wZ at *
        go_wp2_with fail
        refine bodyPost_ret (v := .tuple #[.agg #[.int .i64 2, .int .i64 n1, .slice none 0 0, .int .i64 n2, .int .i64 n3], .bool false]) (by simp [results, Tryz.results23, go_sem, z0, z1, z2, z3, z4]) rfl ?_
        exact ⟨_, _, _, _, _, _, _, false, rfl, (fun h => by cases h), fun _ => by rw [unhide HL]; simp, unhide HBZ⟩
      | true =>
        have hRT : Box 0 #[.int .i64 0, .int .i64 0, .slice none 0 0, .int .i64 0, .int .i64 0] 27 w6.drew w.heap.size := hR
        have HBT := hide (unhide HB6).drew
        have HVT := hide ((unhide HV).later (below_drawn (Below.refl _ _) 1))
        have hVD : (Lay.sl Lay.int).OwnIn w6.drew [.slice none 0 0] [] (w.heap.size + 1) w6.drew.heap.size := unhide HVT
        clear HVT
        refine wp_region_noPanic ?_
        refine wp_region_held_drew (S := fun w' => Ext (fun c => c = w.heap.size) w6 w') (by kernel_rfl) ⟨rfl, rfl, rfl, Nat.le_refl _, fun _ _ _ => rfl⟩ (fun hHeld => ?_)
        generalize w6.drew = wT at hHeld hRT HBT hVD ⊢
        refine wpAnyH_take (i := 0) (oi := { dst := some 70, op := Go.Op.load 27 (Go.Operand.tmp 14), type := 27, pos := "l03_write.go:214", after := #[], guard := none }) (v := ?vr90) rfl (by kernel_rfl) (by kernel_rfl) (by kernel_rfl) (fun _ _ _ h => h) (Or.inl ⟨by rfl, ?hr90⟩) hHeld ?rr90
        case hr90 =>
          intro wS hSw
          have y0 : wS.cell? ⟨pQ, 0, none⟩ = some (.int .i64 2) := (hQ.ext hSw (by omega)).at 0 _ rfl
          have y1 : wS.cell? ⟨pQ, 1, none⟩ = some (.int .i64 n1) := (hQ.ext hSw (by omega)).at 1 _ rfl
          have y2 : wS.cell? ⟨pQ, 2, none⟩ = some (.slice none 0 0) := (hQ.ext hSw (by omega)).at 2 _ rfl
          have y3 : wS.cell? ⟨pQ, 3, none⟩ = some (.int .i64 n2) := (hQ.ext hSw (by omega)).at 3 _ rfl
          have y4 : wS.cell? ⟨pQ, 4, none⟩ = some (.int .i64 n3) := (hQ.ext hSw (by omega)).at 4 _ rfl
          clear hSw
          (try dsimp only at hSw)
          go_simp
          try with_reducible rfl
        case rr90 =>
        simp only [Act.put, List.setIfInBounds_toArray, List.set_cons_zero, List.set_cons_succ]
        refine wpAnyH_take (i := 1) (oi := { dst := some 71, op := Go.Op.move (Go.Operand.tmp 9), type := 4, pos := "l03_write.go:214", after := #[], guard := none }) (v := ?vr91) rfl (by kernel_rfl) (by kernel_rfl) (by kernel_rfl) (fun _ _ _ h => h) (Or.inl ⟨by rfl, ?hr91⟩) hHeld ?rr91
        case hr91 =>
          intro wS hSw
          (try dsimp only at hSw)
          go_simp
          try with_reducible rfl
        case rr91 =>
        simp only [Act.put, List.setIfInBounds_toArray, List.set_cons_zero, List.set_cons_succ]
        refine wpAnyH_take (i := 2) (oi := { dst := some 72, op := Go.Op.move (Go.Operand.tmp 71), type := 4, pos := "l03_write.go:214", after := #[{ on := 1, ground := Go.Ground.data }], guard := none }) (v := ?vr92) rfl (by kernel_rfl) (by kernel_rfl) (by kernel_rfl) (fun _ _ _ h => h) (Or.inl ⟨by rfl, ?hr92⟩) hHeld ?rr92
        case hr92 =>
          intro wS hSw
          (try dsimp only at hSw)
          go_simp
          try with_reducible rfl
        case rr92 =>
        simp only [Act.put, List.setIfInBounds_toArray, List.set_cons_zero, List.set_cons_succ]
        refine wpAnyH_take (i := 3) (oi := { dst := some 73, op := Go.Op.move (Go.Operand.tmp 11), type := 4, pos := "l03_write.go:214", after := #[{ on := 2, ground := Go.Ground.guard }], guard := some (2, true) }) (v := ?vr93) rfl (by kernel_rfl) (by kernel_rfl) (by kernel_rfl) (fun _ _ _ h => h) (Or.inl ⟨by rfl, ?hr93⟩) hHeld ?rr93
        case hr93 =>
          intro wS hSw
          (try dsimp only at hSw)
          go_simp
          try with_reducible rfl
        case rr93 =>
        simp only [Act.put, List.setIfInBounds_toArray, List.set_cons_zero, List.set_cons_succ]
        refine wpAnyH_take (i := 4) (oi := { dst := some 74, op := Go.Op.pick (Go.Operand.tmp 72) (Go.Operand.tmp 73) (Go.Operand.const (Go.Value.bool false)), type := 4, pos := "l03_write.go:214", after := #[{ on := 2, ground := Go.Ground.data }, { on := 3, ground := Go.Ground.data }], guard := none }) (v := ?vr94) rfl (by kernel_rfl) (by kernel_rfl) (by kernel_rfl) (fun _ _ _ h => h) (Or.inl ⟨by rfl, ?hr94⟩) hHeld ?rr94
        case hr94 =>
          intro wS hSw
          (try dsimp only at hSw)
          go_simp
          try with_reducible rfl
        case rr94 =>
        simp only [Act.put, List.setIfInBounds_toArray, List.set_cons_zero, List.set_cons_succ]
        refine wpAnyH_take (i := 5) (oi := { dst := some 75, op := Go.Op.move (Go.Operand.tmp 74), type := 4, pos := "l03_write.go:214", after := #[{ on := 4, ground := Go.Ground.data }, { on := 2, ground := Go.Ground.chain }], guard := none }) (v := ?vr95) rfl (by kernel_rfl) (by kernel_rfl) (by kernel_rfl) (fun _ _ _ h => h) (Or.inl ⟨by rfl, ?hr95⟩) hHeld ?rr95
        case hr95 =>
          intro wS hSw
          (try dsimp only at hSw)
          go_simp
          try with_reducible rfl
        case rr95 =>
        simp only [Act.put, List.setIfInBounds_toArray, List.set_cons_zero, List.set_cons_succ]
        refine wpAnyH_take (i := 6) (oi := { dst := some 76, op := Go.Op.move (Go.Operand.tmp 13), type := 4, pos := "l03_write.go:214", after := #[{ on := 5, ground := Go.Ground.guard }], guard := some (5, true) }) (v := ?vr96) rfl (by kernel_rfl) (by kernel_rfl) (by kernel_rfl) (fun _ _ _ h => h) (Or.inl ⟨by rfl, ?hr96⟩) hHeld ?rr96
        case hr96 =>
          intro wS hSw
          (try dsimp only at hSw)
          go_simp
          try with_reducible rfl
        case rr96 =>
        simp only [Act.put, List.setIfInBounds_toArray, List.set_cons_zero, List.set_cons_succ]
        refine wpAnyH_take (i := 7) (oi := { dst := some 77, op := Go.Op.pick (Go.Operand.tmp 75) (Go.Operand.tmp 76) (Go.Operand.const (Go.Value.bool false)), type := 4, pos := "l03_write.go:214", after := #[{ on := 5, ground := Go.Ground.data }, { on := 6, ground := Go.Ground.data }], guard := none }) (v := ?vr97) rfl (by kernel_rfl) (by kernel_rfl) (by kernel_rfl) (fun _ _ _ h => h) (Or.inl ⟨by rfl, ?hr97⟩) hHeld ?rr97
        case hr97 =>
          intro wS hSw
          (try dsimp only at hSw)
          go_simp
          try with_reducible rfl
        case rr97 =>
        simp only [Act.put, List.setIfInBounds_toArray, List.set_cons_zero, List.set_cons_succ]
        refine wpAnyH_take (i := 8) (oi := { dst := some 78, op := Go.Op.move (Go.Operand.tmp 77), type := 4, pos := "l03_write.go:214", after := #[{ on := 7, ground := Go.Ground.data }, { on := 5, ground := Go.Ground.chain }], guard := none }) (v := ?vr98) rfl (by kernel_rfl) (by kernel_rfl) (by kernel_rfl) (fun _ _ _ h => h) (Or.inl ⟨by rfl, ?hr98⟩) hHeld ?rr98
        case hr98 =>
          intro wS hSw
          (try dsimp only at hSw)
          go_simp
          try with_reducible rfl
        case rr98 =>
        simp only [Act.put, List.setIfInBounds_toArray, List.set_cons_zero, List.set_cons_succ]
        refine wpAnyH_take (i := 9) (oi := { dst := some 79, op := Go.Op.load 27 (Go.Operand.tmp 14), type := 27, pos := "l03_write.go:214", after := #[{ on := 8, ground := Go.Ground.guard }], guard := some (8, true) }) (v := ?vr99) rfl (by kernel_rfl) (by kernel_rfl) (by kernel_rfl) (fun _ _ _ h => h) (Or.inl ⟨by rfl, ?hr99⟩) hHeld ?rr99
        case hr99 =>
          intro wS hSw
          have y0 : wS.cell? ⟨pQ, 0, none⟩ = some (.int .i64 2) := (hQ.ext hSw (by omega)).at 0 _ rfl
          have y1 : wS.cell? ⟨pQ, 1, none⟩ = some (.int .i64 n1) := (hQ.ext hSw (by omega)).at 1 _ rfl
          have y2 : wS.cell? ⟨pQ, 2, none⟩ = some (.slice none 0 0) := (hQ.ext hSw (by omega)).at 2 _ rfl
          have y3 : wS.cell? ⟨pQ, 3, none⟩ = some (.int .i64 n2) := (hQ.ext hSw (by omega)).at 3 _ rfl
          have y4 : wS.cell? ⟨pQ, 4, none⟩ = some (.int .i64 n3) := (hQ.ext hSw (by omega)).at 4 _ rfl
          clear hSw
          (try dsimp only at hSw)
          go_simp
          try with_reducible rfl
        case rr99 =>
        simp only [Act.put, List.setIfInBounds_toArray, List.set_cons_zero, List.set_cons_succ]
        refine wpAnyH_ready (rs := [10]) (by kernel_rfl) (by simp) ?_
        refine AllReadyH.cons (o := { dst := some 80, op := Go.Op.call { callee := Go.Callee.value (Go.Operand.func 16), args := #[Go.Operand.tmp 79], argTypes := #[27] }, type := 2, pos := "l03_write.go:214", after := #[{ on := 9, ground := Go.Ground.data }, { on := 8, ground := Go.Ground.chain }, { on := 8, ground := Go.Ground.guard }], guard := some (8, true) }) rfl (fun K hK => ?_) AllReadyH.nil
        go_simp
        go_at_call 16
        refine (implWriteFault 2 n1 (.slice none 0 0) n2 n3 [] _ (Lay.ints_reads hVD.reads)).mono ?_
        rintro e w8 ⟨rfl, hb8⟩
        have hRT8 := hRT.keep hb8
        have HBT8 := hide ((unhide HBT).trans (hb8.mono (unhide HBT).size))
        have hVD8 := hVD.later hb8
        try go_wp2_with fail
        refine hK.out _ _ (hHeld.trans (ext_of_below hb8 _)) (fun hHeld => ?_)
        clear hK K
        try simp only [Act.put, List.setIfInBounds_toArray, List.set_cons_zero, List.set_cons_succ]
        refine wpAnyH_take (i := 11) (oi := { dst := some 81, op := Go.Op.binOp Go.BinOp.eql 2 (Go.Operand.tmp 80) (Go.Operand.const (Go.Value.int Go.IntKind.i64 0)) 2, type := 4, pos := "l03_write.go:214", after := #[{ on := 10, ground := Go.Ground.data }, { on := 8, ground := Go.Ground.guard }, { on := 13, ground := Go.Ground.gcOnly Go.Departure.lateStores }], guard := some (8, true) }) (v := ?vr911) rfl (by kernel_rfl) (by kernel_rfl) (by kernel_rfl) (fun _ _ _ h => h) (Or.inl ⟨by rfl, ?hr911⟩) hHeld ?rr911
        case hr911 =>
          intro wS hSw
          (try dsimp only at hSw)
          go_simp
          try with_reducible rfl
        case rr911 =>
        simp only [Act.put, List.setIfInBounds_toArray, List.set_cons_zero, List.set_cons_succ]
        refine wpAnyH_take (i := 12) (oi := { dst := some 82, op := Go.Op.pick (Go.Operand.tmp 78) (Go.Operand.tmp 81) (Go.Operand.const (Go.Value.bool false)), type := 4, pos := "l03_write.go:214", after := #[{ on := 8, ground := Go.Ground.data }, { on := 11, ground := Go.Ground.data }, { on := 13, ground := Go.Ground.gcOnly Go.Departure.lateStores }], guard := none }) (v := ?vr912) rfl (by kernel_rfl) (by kernel_rfl) (by kernel_rfl) (fun _ _ _ h => h) (Or.inl ⟨by rfl, ?hr912⟩) hHeld ?rr912
        case hr912 =>
          intro wS hSw
          (try dsimp only at hSw)
          go_simp
          try with_reducible rfl
        case rr912 =>
        simp only [Act.put, List.setIfInBounds_toArray, List.set_cons_zero, List.set_cons_succ]
        refine wpAnyH_ready (rs := [13]) (by kernel_rfl) (by simp) ?_
        refine AllReadyH.cons (o := { dst := none, op := Go.Op.store 27 (Go.Operand.tmp 2) (Go.Operand.tmp 70), type := 0, pos := "l03_write.go:214", after := #[{ on := 0, ground := Go.Ground.data }, { on := 10, ground := Go.Ground.chain }, { on := 0, ground := Go.Ground.phase }, { on := 1, ground := Go.Ground.textOnly Go.Departure.lateStores }, { on := 2, ground := Go.Ground.textOnly Go.Departure.lateStores }, { on := 3, ground := Go.Ground.textOnly Go.Departure.lateStores }, { on := 4, ground := Go.Ground.textOnly Go.Departure.lateStores }, { on := 5, ground := Go.Ground.textOnly Go.Departure.lateStores }, { on := 6, ground := Go.Ground.textOnly Go.Departure.lateStores }, { on := 7, ground := Go.Ground.textOnly Go.Departure.lateStores }, { on := 8, ground := Go.Ground.textOnly Go.Departure.lateStores }, { on := 9, ground := Go.Ground.textOnly Go.Departure.lateStores }, { on := 10, ground := Go.Ground.textOnly Go.Departure.lateStoresUnsure }, { on := 11, ground := Go.Ground.textOnly Go.Departure.lateStores }, { on := 12, ground := Go.Ground.textOnly Go.Departure.lateStores }], guard := none }) rfl (fun K hK => ?_) AllReadyH.nil
        have z0 : w8.cell? ⟨w.heap.size, 0, none⟩ = some (.int .i64 0) := (hRT8).at 0 _ rfl
        have z1 : w8.cell? ⟨w.heap.size, 1, none⟩ = some (.int .i64 0) := (hRT8).at 1 _ rfl
        have z2 : w8.cell? ⟨w.heap.size, 2, none⟩ = some (.slice none 0 0) := (hRT8).at 2 _ rfl
        have z3 : w8.cell? ⟨w.heap.size, 3, none⟩ = some (.int .i64 0) := (hRT8).at 3 _ rfl
        have z4 : w8.cell? ⟨w.heap.size, 4, none⟩ = some (.int .i64 0) := (hRT8).at 4 _ rfl
        have f0 := hRT8.soft 0
        have f1 := hRT8.soft 1
        have f2 := hRT8.soft 2
        have f3 := hRT8.soft 3
        have f4 := hRT8.soft 4
        have lR := hRT8.lt
        go_simp
        refine hK.out _ _ (((((hHeld.setCell ⟨w.heap.size, 0, none⟩ _ rfl).setCell ⟨w.heap.size, 1, none⟩ _ rfl).setCell ⟨w.heap.size, 2, none⟩ _ rfl).setCell ⟨w.heap.size, 3, none⟩ _ rfl).setCell ⟨w.heap.size, 4, none⟩ _ rfl) (fun hHeld => ?_)
        clear hK K
        try simp only [Act.put, List.setIfInBounds_toArray, List.set_cons_zero, List.set_cons_succ]
        refine wpAnyH_take (i := 14) (oi := { dst := some 3, op := Go.Op.assign (Go.Operand.tmp 82), type := 4, pos := "l03_write.go:214", after := #[{ on := 12, ground := Go.Ground.data }, { on := 13, ground := Go.Ground.chain }, { on := 0, ground := Go.Ground.phase }, { on := 1, ground := Go.Ground.phase }, { on := 2, ground := Go.Ground.phase }, { on := 3, ground := Go.Ground.phase }, { on := 4, ground := Go.Ground.phase }, { on := 5, ground := Go.Ground.phase }, { on := 6, ground := Go.Ground.phase }, { on := 7, ground := Go.Ground.phase }, { on := 8, ground := Go.Ground.phase }, { on := 9, ground := Go.Ground.phase }, { on := 10, ground := Go.Ground.phase }, { on := 11, ground := Go.Ground.phase }, { on := 12, ground := Go.Ground.phase }, { on := 13, ground := Go.Ground.phase }], guard := none }) (v := ?vr914) rfl (by kernel_rfl) (by kernel_rfl) (by kernel_rfl) (fun _ _ _ h => h) (Or.inl ⟨by rfl, ?hr914⟩) hHeld ?rr914
        case hr914 =>
          intro wS hSw
          (try dsimp only at hSw)
          go_simp
          try with_reducible rfl
        case rr914 =>
        simp only [Act.put, List.setIfInBounds_toArray, List.set_cons_zero, List.set_cons_succ]
        refine wpAnyH_done (by kernel_rfl) ?_ _
        refine NoPanic.normal ?_
        have hE : Ext (fun c => c = w.heap.size) w8 (((((w8.setCell ⟨w.heap.size, 0, none⟩ (.int .i64 2)).setCell ⟨w.heap.size, 1, none⟩ (.int .i64 n1)).setCell ⟨w.heap.size, 2, none⟩ (.slice none 0 0)).setCell ⟨w.heap.size, 3, none⟩ (.int .i64 n2)).setCell ⟨w.heap.size, 4, none⟩ (.int .i64 n3)) := ((((((Ext.refl (fun c => c = w.heap.size) _).setCell ⟨w.heap.size, 0, none⟩ _ rfl).setCell ⟨w.heap.size, 1, none⟩ _ rfl).setCell ⟨w.heap.size, 2, none⟩ _ rfl).setCell ⟨w.heap.size, 3, none⟩ _ rfl).setCell ⟨w.heap.size, 4, none⟩ _ rfl)
        have hRZ := (((((hRT8.set 0 (.int .i64 2)).set 1 (.int .i64 n1)).set 2 (.slice none 0 0)).set 3 (.int .i64 n2)).set 4 (.int .i64 n3))
        have z0 : (((((w8.setCell ⟨w.heap.size, 0, none⟩ (.int .i64 2)).setCell ⟨w.heap.size, 1, none⟩ (.int .i64 n1)).setCell ⟨w.heap.size, 2, none⟩ (.slice none 0 0)).setCell ⟨w.heap.size, 3, none⟩ (.int .i64 n2)).setCell ⟨w.heap.size, 4, none⟩ (.int .i64 n3)).cell? ⟨w.heap.size, 0, none⟩ = some (.int .i64 2) := hRZ.at 0 _ rfl
        have z1 : (((((w8.setCell ⟨w.heap.size, 0, none⟩ (.int .i64 2)).setCell ⟨w.heap.size, 1, none⟩ (.int .i64 n1)).setCell ⟨w.heap.size, 2, none⟩ (.slice none 0 0)).setCell ⟨w.heap.size, 3, none⟩ (.int .i64 n2)).setCell ⟨w.heap.size, 4, none⟩ (.int .i64 n3)).cell? ⟨w.heap.size, 1, none⟩ = some (.int .i64 n1) := hRZ.at 1 _ rfl
        have z2 : (((((w8.setCell ⟨w.heap.size, 0, none⟩ (.int .i64 2)).setCell ⟨w.heap.size, 1, none⟩ (.int .i64 n1)).setCell ⟨w.heap.size, 2, none⟩ (.slice none 0 0)).setCell ⟨w.heap.size, 3, none⟩ (.int .i64 n2)).setCell ⟨w.heap.size, 4, none⟩ (.int .i64 n3)).cell? ⟨w.heap.size, 2, none⟩ = some (.slice none 0 0) := hRZ.at 2 _ rfl
        have z3 : (((((w8.setCell ⟨w.heap.size, 0, none⟩ (.int .i64 2)).setCell ⟨w.heap.size, 1, none⟩ (.int .i64 n1)).setCell ⟨w.heap.size, 2, none⟩ (.slice none 0 0)).setCell ⟨w.heap.size, 3, none⟩ (.int .i64 n2)).setCell ⟨w.heap.size, 4, none⟩ (.int .i64 n3)).cell? ⟨w.heap.size, 3, none⟩ = some (.int .i64 n2) := hRZ.at 3 _ rfl
        have z4 : (((((w8.setCell ⟨w.heap.size, 0, none⟩ (.int .i64 2)).setCell ⟨w.heap.size, 1, none⟩ (.int .i64 n1)).setCell ⟨w.heap.size, 2, none⟩ (.slice none 0 0)).setCell ⟨w.heap.size, 3, none⟩ (.int .i64 n2)).setCell ⟨w.heap.size, 4, none⟩ (.int .i64 n3)).cell? ⟨w.heap.size, 4, none⟩ = some (.int .i64 n3) := hRZ.at 4 _ rfl
        have HBZ : Hid (Below w.heap.size w (((((w8.setCell ⟨w.heap.size, 0, none⟩ (.int .i64 2)).setCell ⟨w.heap.size, 1, none⟩ (.int .i64 n1)).setCell ⟨w.heap.size, 2, none⟩ (.slice none 0 0)).setCell ⟨w.heap.size, 3, none⟩ (.int .i64 n2)).setCell ⟨w.heap.size, 4, none⟩ (.int .i64 n3))) := (unhide HBT8).trans (hE.below (by have := (unhide HBT8).size; omega) (fun k hk e => by omega))
        have HOZ : Hid ((Lay.sl Lay.int).OwnIn (((((w8.setCell ⟨w.heap.size, 0, none⟩ (.int .i64 2)).setCell ⟨w.heap.size, 1, none⟩ (.int .i64 n1)).setCell ⟨w.heap.size, 2, none⟩ (.slice none 0 0)).setCell ⟨w.heap.size, 3, none⟩ (.int .i64 n2)).setCell ⟨w.heap.size, 4, none⟩ (.int .i64 n3)) [.slice none 0 0] [] w.heap.size (((((w8.setCell ⟨w.heap.size, 0, none⟩ (.int .i64 2)).setCell ⟨w.heap.size, 1, none⟩ (.int .i64 n1)).setCell ⟨w.heap.size, 2, none⟩ (.slice none 0 0)).setCell ⟨w.heap.size, 3, none⟩ (.int .i64 n2)).setCell ⟨w.heap.size, 4, none⟩ (.int .i64 n3)).heap.size) := (hVD8.ext hE (fun c h1 _ h3 => by omega)).mono (by omega) (by simp; exact hb8.size)
        clear hHeld hE hRZ hRT8 hVD8 hVD hRT
        generalize (((((w8.setCell ⟨w.heap.size, 0, none⟩ (.int .i64 2)).setCell ⟨w.heap.size, 1, none⟩ (.int .i64 n1)).setCell ⟨w.heap.size, 2, none⟩ (.slice none 0 0)).setCell ⟨w.heap.size, 3, none⟩ (.int .i64 n2)).setCell ⟨w.heap.size, 4, none⟩ (.int .i64 n3)) = wZ at *
        go_wp2_with fail
        refine bodyPost_ret (v := .tuple #[.agg #[.int .i64 2, .int .i64 n1, .slice none 0 0, .int .i64 n2, .int .i64 n3], .bool (writeFault 2 n1 [] n2 n3 == 0)]) (by simp [results, Tryz.results23, go_sem, z0, z1, z2, z3, z4]) rfl ?_
        refine ⟨_, _, _, _, _, _, _, (writeFault 2 n1 [] n2 n3 == 0), rfl, fun h => ?_, fun h => ?_, unhide HBZ⟩
        · have hz : writeFault 2 n1 [] n2 n3 = 0 := by simpa using h
          obtain ⟨w1_, w2_, w3_, -⟩ := writeFault_zero hz
          obtain ⟨bl, O, i⟩ := unhide HOZ
          exact ⟨⟨2, n1, [], n2, n3⟩, by rw [unhide HL]; simp [hz], ⟨bl, mkOwn_Write (x := ⟨2, n1, [], n2, n3⟩) O (show (Lit.int .i64 2).wf = true by decide) (wf_of_bd (z := n1) (by omega)) (wf_of_bd (z := n2) (by omega)) (wf_of_bd (z := n3) (by omega)) O.2.1, i⟩⟩
        · rw [unhide HL]; simp only [Bool.true_and, h]; rfl

end Go.Proofs.YtjofcmdlcoganaaGreatDoor

namespace Go.Proofs.YtjofcmdlcoganaaGreatDoor
open Go.RowKit

set_option maxRecDepth 100000 in
set_option maxHeartbeats 4000000 in
theorem readW_put (s : ByteArray) (d a t b c : ByteArray) (p q r : Int) (l : List Bytes) (w : World) (hsp : ∀ W : World, W = w.alloc (.cells #[.int .i64 0, .int .i64 0, .slice none 0 0, .int .i64 0, .int .i64 0] 27) → Calls Tryz.prog 43 #[.string s, .string ⟨#[32]⟩] W fun e w' => e = .returned (.slice (some ⟨W.heap.size, 0, none⟩) 6 6) ∧ w' = W.alloc (.cells #[.string d, .string a, .string t, .string ⟨#[98, 121]⟩, .string b, .string c] 9)) (hpw : ∀ z ∈ [p, q, r], (Lit.int .i64 z).wf = true) (sa : a.size ≤ 1048576) (sb : b.size ≤ 1048576) (sc : c.size ≤ 1048576) (hl : readI l = if tailI 1 [p, q, r] a.data.toList b.data.toList c.data.toList = true then some (tailX 1 [p, q, r] a.data.toList b.data.toList c.data.toList) else none) (hd : ∀ W, Box 0 #[.string d, .string a, .string t, .string ⟨#[98, 121]⟩, .string b, .string c] 9 W (w.heap.size + 1) → Calls Tryz.prog 44 #[.slice (some ⟨w.heap.size + 1, 0, none⟩) 3 6] W fun e w' => e = .returned (.tuple #[putV p q r, .bool true]) ∧ Below W.heap.size W w') :
    Calls Tryz.prog 23 #[.string s] w fun e w' => ∃ (k i : Int) (a : Option Addr) (n c : Nat) (ss q : Int) (ok : Bool), e = .returned (.tuple #[.agg #[.int .i64 k, .int .i64 i, .slice a n c, .int .i64 ss, .int .i64 q], .bool ok]) ∧ (ok = true → ∃ x, readI l = some x ∧ Lay.tWrite.OwnIn w' [.int .i64 k, .int .i64 i, .slice a n c, .int .i64 ss, .int .i64 q] x w.heap.size w'.heap.size) ∧ (ok = false → readI l = none) ∧ Below w.heap.size w w' := by
  have nb : Below w.heap.size w (w.alloc (.cells #[.int .i64 0, .int .i64 0, .slice none 0 0, .int .i64 0, .int .i64 0] 27)) := (Below.refl _ _).alloc (Nat.le_refl _) _
  have bR0 : Box 0 #[.int .i64 0, .int .i64 0, .slice none 0 0, .int .i64 0, .int .i64 0] 27 (w.alloc (.cells #[.int .i64 0, .int .i64 0, .slice none 0 0, .int .i64 0, .int .i64 0] 27)) w.heap.size := newBox (Nat.zero_le _)
  have hs0 : (w.alloc (.cells #[.int .i64 0, .int .i64 0, .slice none 0 0, .int .i64 0, .int .i64 0] 27)).heap.size = w.heap.size + 1 := by simp
  have HSP := hide (hsp _ rfl)
  clear hsp
  go_enter Tryz.func23, Tryz.ntmps23
  go_wp2_with fail
  generalize w.alloc (.cells #[.int .i64 0, .int .i64 0, .slice none 0 0, .int .i64 0, .int .i64 0] 27) = w1 at *
  refine (unhide HSP).mono ?_
  rintro e w2 ⟨rfl, hw2⟩
  have nb2 : Below w1.heap.size w1 w2 := by rw [hw2]; exact (Below.refl _ _).alloc (Nat.le_refl _) _
  have bS : Box 0 #[.string d, .string a, .string t, .string ⟨#[98, 121]⟩, .string b, .string c] 9 w2 w1.heap.size := by rw [hw2]; exact newBox (Nat.zero_le _)
  have bR := bR0.keep nb2
  have HB2 := hide (nb.trans (nb2.mono nb.size))
  have hlt2 := bS.lt
  rw [hs0] at *
  clear hw2 nb nb2 bR0 HSP
  have HPW := hide hpw
  clear hpw
  have HD := hide (hd w2 bS)
  have HR := hide bR
  have HS := hide bS
  have s0 : w2.cell? ⟨w.heap.size + 1, 0, none⟩ = some (.string d) := bS.at 0 _ rfl
  have s1 : w2.cell? ⟨w.heap.size + 1, 1, none⟩ = some (.string a) := bS.at 1 _ rfl
  have s2 : w2.cell? ⟨w.heap.size + 1, 2, none⟩ = some (.string t) := bS.at 2 _ rfl
  have s3 : w2.cell? ⟨w.heap.size + 1, 3, none⟩ = some (.string ⟨#[98, 121]⟩) := bS.at 3 _ rfl
  have s4 : w2.cell? ⟨w.heap.size + 1, 4, none⟩ = some (.string b) := bS.at 4 _ rfl
  have s5 : w2.cell? ⟨w.heap.size + 1, 5, none⟩ = some (.string c) := bS.at 5 _ rfl
  clear bS bR hd
  simp only [putV] at *
  go_wp2_with fail
  clear s0 s1 s2 s3 s4 s5
  refine (unhide HD).mono ?_
  rintro e w3 ⟨rfl, hb3⟩
  have HR3 := hide ((unhide HR).keep hb3)
  have bS := (unhide HS).keep hb3
  replace HB2 := hide ((unhide HB2).trans (hb3.mono (unhide HB2).size))
  have h3 : w2.heap.size ≤ w3.heap.size := hb3.size
  have s0 : w3.cell? ⟨w.heap.size + 1, 0, none⟩ = some (.string d) := bS.at 0 _ rfl
  have s1 : w3.cell? ⟨w.heap.size + 1, 1, none⟩ = some (.string a) := bS.at 1 _ rfl
  have s2 : w3.cell? ⟨w.heap.size + 1, 2, none⟩ = some (.string t) := bS.at 2 _ rfl
  have s3 : w3.cell? ⟨w.heap.size + 1, 3, none⟩ = some (.string ⟨#[98, 121]⟩) := bS.at 3 _ rfl
  have s4 : w3.cell? ⟨w.heap.size + 1, 4, none⟩ = some (.string b) := bS.at 4 _ rfl
  have s5 : w3.cell? ⟨w.heap.size + 1, 5, none⟩ = some (.string c) := bS.at 5 _ rfl
  have HN1 := hide (readNumber_c a 3 w3 sa (by decide))
  have HN2 := hide (readNumber_c b 1 w3 sb (by decide))
  have HN3 := hide (readNumber_c c 3 w3 sc (by decide))
  have hT : tailI 1 [p, q, r] a.data.toList b.data.toList c.data.toList = (((readN 3 a.data.toList).2 && (readN 1 b.data.toList).2 && (readN 3 c.data.toList).2) && (writeFault 1 (readN 3 a.data.toList).1 [p, q, r] (readN 1 b.data.toList).1 (readN 3 c.data.toList).1 == 0)) := rfl
  have hX : tailX 1 [p, q, r] a.data.toList b.data.toList c.data.toList = ⟨1, (readN 3 a.data.toList).1, [p, q, r], (readN 1 b.data.toList).1, (readN 3 c.data.toList).1⟩ := rfl
  rw [hT, hX] at hl
  have HL := hide hl
  clear hT hX hl
  generalize (readN 3 a.data.toList).1 = n1 at *
  generalize (readN 1 b.data.toList).1 = n2 at *
  generalize (readN 3 c.data.toList).1 = n3 at *
  generalize (readN 3 a.data.toList).2 = o1 at *
  generalize (readN 1 b.data.toList).2 = o2 at *
  generalize (readN 3 c.data.toList).2 = o3 at *
  have HW := hide (writeOf_put p q r n1 n2 n3 w3)
  clear HR HS HD hb3 bS
  go_wp2_with fail
  refine (unhide HN1).mono ?_
  rintro e w4 ⟨rfl, hw4⟩
  rw [hw4]
  clear hw4 w4
  go_wp2_with fail
  refine (unhide HN2).mono ?_
  rintro e w4 ⟨rfl, hw4⟩
  rw [hw4]
  clear hw4 w4
  go_wp2_with fail
  refine (unhide HN3).mono ?_
  rintro e w4 ⟨rfl, hw4⟩
  rw [hw4]
  clear hw4 w4 HN1 HN2 HN3 s0 s1 s2 s3 s4 s5
  go_wp2_with fail
  refine (unhide HW).mono ?_
  rintro e w5 ⟨ax, cx, rfl, hO0, hb5⟩
  have hO := Lay.ownInts (zs := [p, q, r]) (unhide HPW) (by simp) hO0
  obtain ⟨blV, oV, iV⟩ := hO
  have nb6 : Below w5.heap.size w5 (w5.alloc (.cells #[.int .i64 1, .int .i64 n1, .slice ax 3 cx, .int .i64 n2, .int .i64 n3] 27)) := (Below.refl _ _).alloc (Nat.le_refl _) _
  have HQ : Hid (Box 0 #[.int .i64 1, .int .i64 n1, .slice ax 3 cx, .int .i64 n2, .int .i64 n3] 27 (w5.alloc (.cells #[.int .i64 1, .int .i64 n1, .slice ax 3 cx, .int .i64 n2, .int .i64 n3] 27)) w5.heap.size) := newBox (Nat.zero_le _)
  have HR6 := hide (((unhide HR3).keep hb5).keep nb6)
  have HB6 := hide (((unhide HB2).trans (hb5.mono (unhide HB2).size)).trans (nb6.mono (Nat.le_trans (unhide HB2).size hb5.size)))
  have HV : Hid ((Lay.sl Lay.int).OwnIn (w5.alloc (.cells #[.int .i64 1, .int .i64 n1, .slice ax 3 cx, .int .i64 n2, .int .i64 n3] 27)) [.slice ax 3 cx] [p, q, r] (w.heap.size + 1) (w5.alloc (.cells #[.int .i64 1, .int .i64 n1, .slice ax 3 cx, .int .i64 n2, .int .i64 n3] 27)).heap.size) := (Lay.OwnIn.later (A := Lay.sl Lay.int) ⟨blV, oV, iV⟩ nb6).mono (by omega) nb6.size
  have h5 : w3.heap.size ≤ w5.heap.size := hb5.size
  clear hb5 nb6 oV iV HW HR3 HB2
  go_upto_region 12 with fail
  generalize w5.alloc (.cells #[.int .i64 1, .int .i64 n1, .slice ax 3 cx, .int .i64 n2, .int .i64 n3] 27) = w6 at *
  generalize w5.heap.size = pQ at *
  have hQ := unhide HQ
  have hR := unhide HR6
  have hlq := hQ.lt
  clear HQ HR6
  cases o1 with
  | false =>
    have hRT : Box 0 #[.int .i64 0, .int .i64 0, .slice none 0 0, .int .i64 0, .int .i64 0] 27 w6.drew w.heap.size := hR
    have HBT := hide (unhide HB6).drew
    refine wp_region_noPanic ?_
    refine wp_region_held_drew (S := fun w' => Ext (fun c => c = w.heap.size) w6 w') (by kernel_rfl) ⟨rfl, rfl, rfl, Nat.le_refl _, fun _ _ _ => rfl⟩ (fun hHeld => ?_)
    generalize w6.drew = wT at hHeld hRT HBT ⊢
    refine wpAnyH_take (i := 0) (oi := { dst := some 70, op := Go.Op.load 27 (Go.Operand.tmp 14), type := 27, pos := "l03_write.go:214", after := #[], guard := none }) (v := ?vr00) rfl (by kernel_rfl) (by kernel_rfl) (by kernel_rfl) (fun _ _ _ h => h) (Or.inl ⟨by rfl, ?hr00⟩) hHeld ?rr00
    case hr00 =>
      intro wS hSw
      have y0 : wS.cell? ⟨pQ, 0, none⟩ = some (.int .i64 1) := (hQ.ext hSw (by omega)).at 0 _ rfl
      have y1 : wS.cell? ⟨pQ, 1, none⟩ = some (.int .i64 n1) := (hQ.ext hSw (by omega)).at 1 _ rfl
      have y2 : wS.cell? ⟨pQ, 2, none⟩ = some (.slice ax 3 cx) := (hQ.ext hSw (by omega)).at 2 _ rfl
      have y3 : wS.cell? ⟨pQ, 3, none⟩ = some (.int .i64 n2) := (hQ.ext hSw (by omega)).at 3 _ rfl
      have y4 : wS.cell? ⟨pQ, 4, none⟩ = some (.int .i64 n3) := (hQ.ext hSw (by omega)).at 4 _ rfl
      clear hSw
      (try dsimp only at hSw)
      go_simp
      try with_reducible rfl
    case rr00 =>
    simp only [Act.put, List.setIfInBounds_toArray, List.set_cons_zero, List.set_cons_succ]
    refine wpAnyH_take (i := 1) (oi := { dst := some 71, op := Go.Op.move (Go.Operand.tmp 9), type := 4, pos := "l03_write.go:214", after := #[], guard := none }) (v := ?vr01) rfl (by kernel_rfl) (by kernel_rfl) (by kernel_rfl) (fun _ _ _ h => h) (Or.inl ⟨by rfl, ?hr01⟩) hHeld ?rr01
    case hr01 =>
      intro wS hSw
      (try dsimp only at hSw)
      go_simp
      try with_reducible rfl
    case rr01 =>
    simp only [Act.put, List.setIfInBounds_toArray, List.set_cons_zero, List.set_cons_succ]
    refine wpAnyH_take (i := 2) (oi := { dst := some 72, op := Go.Op.move (Go.Operand.tmp 71), type := 4, pos := "l03_write.go:214", after := #[{ on := 1, ground := Go.Ground.data }], guard := none }) (v := ?vr02) rfl (by kernel_rfl) (by kernel_rfl) (by kernel_rfl) (fun _ _ _ h => h) (Or.inl ⟨by rfl, ?hr02⟩) hHeld ?rr02
    case hr02 =>
      intro wS hSw
      (try dsimp only at hSw)
      go_simp
      try with_reducible rfl
    case rr02 =>
    simp only [Act.put, List.setIfInBounds_toArray, List.set_cons_zero, List.set_cons_succ]
    refine wpAnyH_take (i := 3) (oi := { dst := some 73, op := Go.Op.move (Go.Operand.tmp 11), type := 4, pos := "l03_write.go:214", after := #[{ on := 2, ground := Go.Ground.guard }], guard := some (2, true) }) (v := undef) rfl (by kernel_rfl) (by kernel_rfl) (by kernel_rfl) (fun _ _ _ h => h) (Or.inr ⟨by rfl, rfl⟩) hHeld ?_
    simp only [Act.put, List.setIfInBounds_toArray, List.set_cons_zero, List.set_cons_succ]
    refine wpAnyH_take (i := 4) (oi := { dst := some 74, op := Go.Op.pick (Go.Operand.tmp 72) (Go.Operand.tmp 73) (Go.Operand.const (Go.Value.bool false)), type := 4, pos := "l03_write.go:214", after := #[{ on := 2, ground := Go.Ground.data }, { on := 3, ground := Go.Ground.data }], guard := none }) (v := ?vr04) rfl (by kernel_rfl) (by kernel_rfl) (by kernel_rfl) (fun _ _ _ h => h) (Or.inl ⟨by rfl, ?hr04⟩) hHeld ?rr04
    case hr04 =>
      intro wS hSw
      (try dsimp only at hSw)
      go_simp
      try with_reducible rfl
    case rr04 =>
    simp only [Act.put, List.setIfInBounds_toArray, List.set_cons_zero, List.set_cons_succ]
    refine wpAnyH_take (i := 5) (oi := { dst := some 75, op := Go.Op.move (Go.Operand.tmp 74), type := 4, pos := "l03_write.go:214", after := #[{ on := 4, ground := Go.Ground.data }, { on := 2, ground := Go.Ground.chain }], guard := none }) (v := ?vr05) rfl (by kernel_rfl) (by kernel_rfl) (by kernel_rfl) (fun _ _ _ h => h) (Or.inl ⟨by rfl, ?hr05⟩) hHeld ?rr05
    case hr05 =>
      intro wS hSw
      (try dsimp only at hSw)
      go_simp
      try with_reducible rfl
    case rr05 =>
    simp only [Act.put, List.setIfInBounds_toArray, List.set_cons_zero, List.set_cons_succ]
    refine wpAnyH_take (i := 6) (oi := { dst := some 76, op := Go.Op.move (Go.Operand.tmp 13), type := 4, pos := "l03_write.go:214", after := #[{ on := 5, ground := Go.Ground.guard }], guard := some (5, true) }) (v := undef) rfl (by kernel_rfl) (by kernel_rfl) (by kernel_rfl) (fun _ _ _ h => h) (Or.inr ⟨by rfl, rfl⟩) hHeld ?_
    simp only [Act.put, List.setIfInBounds_toArray, List.set_cons_zero, List.set_cons_succ]
    refine wpAnyH_take (i := 7) (oi := { dst := some 77, op := Go.Op.pick (Go.Operand.tmp 75) (Go.Operand.tmp 76) (Go.Operand.const (Go.Value.bool false)), type := 4, pos := "l03_write.go:214", after := #[{ on := 5, ground := Go.Ground.data }, { on := 6, ground := Go.Ground.data }], guard := none }) (v := ?vr07) rfl (by kernel_rfl) (by kernel_rfl) (by kernel_rfl) (fun _ _ _ h => h) (Or.inl ⟨by rfl, ?hr07⟩) hHeld ?rr07
    case hr07 =>
      intro wS hSw
      (try dsimp only at hSw)
      go_simp
      try with_reducible rfl
    case rr07 =>
    simp only [Act.put, List.setIfInBounds_toArray, List.set_cons_zero, List.set_cons_succ]
    refine wpAnyH_take (i := 8) (oi := { dst := some 78, op := Go.Op.move (Go.Operand.tmp 77), type := 4, pos := "l03_write.go:214", after := #[{ on := 7, ground := Go.Ground.data }, { on := 5, ground := Go.Ground.chain }], guard := none }) (v := ?vr08) rfl (by kernel_rfl) (by kernel_rfl) (by kernel_rfl) (fun _ _ _ h => h) (Or.inl ⟨by rfl, ?hr08⟩) hHeld ?rr08
    case hr08 =>
      intro wS hSw
      (try dsimp only at hSw)
      go_simp
      try with_reducible rfl
    case rr08 =>
    simp only [Act.put, List.setIfInBounds_toArray, List.set_cons_zero, List.set_cons_succ]
    refine wpAnyH_take (i := 9) (oi := { dst := some 79, op := Go.Op.load 27 (Go.Operand.tmp 14), type := 27, pos := "l03_write.go:214", after := #[{ on := 8, ground := Go.Ground.guard }], guard := some (8, true) }) (v := undef) rfl (by kernel_rfl) (by kernel_rfl) (by kernel_rfl) (fun _ _ _ h => h) (Or.inr ⟨by rfl, rfl⟩) hHeld ?_
    simp only [Act.put, List.setIfInBounds_toArray, List.set_cons_zero, List.set_cons_succ]
    refine wpAnyH_take (i := 10) (oi := { dst := some 80, op := Go.Op.call { callee := Go.Callee.value (Go.Operand.func 16), args := #[Go.Operand.tmp 79], argTypes := #[27] }, type := 2, pos := "l03_write.go:214", after := #[{ on := 9, ground := Go.Ground.data }, { on := 8, ground := Go.Ground.chain }, { on := 8, ground := Go.Ground.guard }], guard := some (8, true) }) (v := undef) rfl (by kernel_rfl) (by kernel_rfl) (by kernel_rfl) (fun _ _ _ h => h) (Or.inr ⟨by rfl, rfl⟩) hHeld ?_
    simp only [Act.put, List.setIfInBounds_toArray, List.set_cons_zero, List.set_cons_succ]
    refine wpAnyH_take (i := 11) (oi := { dst := some 81, op := Go.Op.binOp Go.BinOp.eql 2 (Go.Operand.tmp 80) (Go.Operand.const (Go.Value.int Go.IntKind.i64 0)) 2, type := 4, pos := "l03_write.go:214", after := #[{ on := 10, ground := Go.Ground.data }, { on := 8, ground := Go.Ground.guard }, { on := 13, ground := Go.Ground.gcOnly Go.Departure.lateStores }], guard := some (8, true) }) (v := undef) rfl (by kernel_rfl) (by kernel_rfl) (by kernel_rfl) (fun _ _ _ h => h) (Or.inr ⟨by rfl, rfl⟩) hHeld ?_
    simp only [Act.put, List.setIfInBounds_toArray, List.set_cons_zero, List.set_cons_succ]
    refine wpAnyH_take (i := 12) (oi := { dst := some 82, op := Go.Op.pick (Go.Operand.tmp 78) (Go.Operand.tmp 81) (Go.Operand.const (Go.Value.bool false)), type := 4, pos := "l03_write.go:214", after := #[{ on := 8, ground := Go.Ground.data }, { on := 11, ground := Go.Ground.data }, { on := 13, ground := Go.Ground.gcOnly Go.Departure.lateStores }], guard := none }) (v := ?vr012) rfl (by kernel_rfl) (by kernel_rfl) (by kernel_rfl) (fun _ _ _ h => h) (Or.inl ⟨by rfl, ?hr012⟩) hHeld ?rr012
    case hr012 =>
      intro wS hSw
      (try dsimp only at hSw)
      go_simp
      try with_reducible rfl
    case rr012 =>
    simp only [Act.put, List.setIfInBounds_toArray, List.set_cons_zero, List.set_cons_succ]
    refine wpAnyH_ready (rs := [13]) (by kernel_rfl) (by simp) ?_
    refine AllReadyH.cons (o := { dst := none, op := Go.Op.store 27 (Go.Operand.tmp 2) (Go.Operand.tmp 70), type := 0, pos := "l03_write.go:214", after := #[{ on := 0, ground := Go.Ground.data }, { on := 10, ground := Go.Ground.chain }, { on := 0, ground := Go.Ground.phase }, { on := 1, ground := Go.Ground.textOnly Go.Departure.lateStores }, { on := 2, ground := Go.Ground.textOnly Go.Departure.lateStores }, { on := 3, ground := Go.Ground.textOnly Go.Departure.lateStores }, { on := 4, ground := Go.Ground.textOnly Go.Departure.lateStores }, { on := 5, ground := Go.Ground.textOnly Go.Departure.lateStores }, { on := 6, ground := Go.Ground.textOnly Go.Departure.lateStores }, { on := 7, ground := Go.Ground.textOnly Go.Departure.lateStores }, { on := 8, ground := Go.Ground.textOnly Go.Departure.lateStores }, { on := 9, ground := Go.Ground.textOnly Go.Departure.lateStores }, { on := 10, ground := Go.Ground.textOnly Go.Departure.lateStoresUnsure }, { on := 11, ground := Go.Ground.textOnly Go.Departure.lateStores }, { on := 12, ground := Go.Ground.textOnly Go.Departure.lateStores }], guard := none }) rfl (fun K hK => ?_) AllReadyH.nil
    have z0 : wT.cell? ⟨w.heap.size, 0, none⟩ = some (.int .i64 0) := (hRT).at 0 _ rfl
    have z1 : wT.cell? ⟨w.heap.size, 1, none⟩ = some (.int .i64 0) := (hRT).at 1 _ rfl
    have z2 : wT.cell? ⟨w.heap.size, 2, none⟩ = some (.slice none 0 0) := (hRT).at 2 _ rfl
    have z3 : wT.cell? ⟨w.heap.size, 3, none⟩ = some (.int .i64 0) := (hRT).at 3 _ rfl
    have z4 : wT.cell? ⟨w.heap.size, 4, none⟩ = some (.int .i64 0) := (hRT).at 4 _ rfl
    have f0 := hRT.soft 0
    have f1 := hRT.soft 1
    have f2 := hRT.soft 2
    have f3 := hRT.soft 3
    have f4 := hRT.soft 4
    have lR := hRT.lt
    go_simp
    refine hK.out _ _ (((((hHeld.setCell ⟨w.heap.size, 0, none⟩ _ rfl).setCell ⟨w.heap.size, 1, none⟩ _ rfl).setCell ⟨w.heap.size, 2, none⟩ _ rfl).setCell ⟨w.heap.size, 3, none⟩ _ rfl).setCell ⟨w.heap.size, 4, none⟩ _ rfl) (fun hHeld => ?_)
    clear hK K
    try simp only [Act.put, List.setIfInBounds_toArray, List.set_cons_zero, List.set_cons_succ]
    refine wpAnyH_take (i := 14) (oi := { dst := some 3, op := Go.Op.assign (Go.Operand.tmp 82), type := 4, pos := "l03_write.go:214", after := #[{ on := 12, ground := Go.Ground.data }, { on := 13, ground := Go.Ground.chain }, { on := 0, ground := Go.Ground.phase }, { on := 1, ground := Go.Ground.phase }, { on := 2, ground := Go.Ground.phase }, { on := 3, ground := Go.Ground.phase }, { on := 4, ground := Go.Ground.phase }, { on := 5, ground := Go.Ground.phase }, { on := 6, ground := Go.Ground.phase }, { on := 7, ground := Go.Ground.phase }, { on := 8, ground := Go.Ground.phase }, { on := 9, ground := Go.Ground.phase }, { on := 10, ground := Go.Ground.phase }, { on := 11, ground := Go.Ground.phase }, { on := 12, ground := Go.Ground.phase }, { on := 13, ground := Go.Ground.phase }], guard := none }) (v := ?vr014) rfl (by kernel_rfl) (by kernel_rfl) (by kernel_rfl) (fun _ _ _ h => h) (Or.inl ⟨by rfl, ?hr014⟩) hHeld ?rr014
    case hr014 =>
      intro wS hSw
      (try dsimp only at hSw)
      go_simp
      try with_reducible rfl
    case rr014 =>
    simp only [Act.put, List.setIfInBounds_toArray, List.set_cons_zero, List.set_cons_succ]
    refine wpAnyH_done (by kernel_rfl) ?_ _
    refine NoPanic.normal ?_
    have hE : Ext (fun c => c = w.heap.size) wT (((((wT.setCell ⟨w.heap.size, 0, none⟩ (.int .i64 1)).setCell ⟨w.heap.size, 1, none⟩ (.int .i64 n1)).setCell ⟨w.heap.size, 2, none⟩ (.slice ax 3 cx)).setCell ⟨w.heap.size, 3, none⟩ (.int .i64 n2)).setCell ⟨w.heap.size, 4, none⟩ (.int .i64 n3)) := ((((((Ext.refl (fun c => c = w.heap.size) _).setCell ⟨w.heap.size, 0, none⟩ _ rfl).setCell ⟨w.heap.size, 1, none⟩ _ rfl).setCell ⟨w.heap.size, 2, none⟩ _ rfl).setCell ⟨w.heap.size, 3, none⟩ _ rfl).setCell ⟨w.heap.size, 4, none⟩ _ rfl)
    have hRZ := (((((hRT.set 0 (.int .i64 1)).set 1 (.int .i64 n1)).set 2 (.slice ax 3 cx)).set 3 (.int .i64 n2)).set 4 (.int .i64 n3))
    have z0 : (((((wT.setCell ⟨w.heap.size, 0, none⟩ (.int .i64 1)).setCell ⟨w.heap.size, 1, none⟩ (.int .i64 n1)).setCell ⟨w.heap.size, 2, none⟩ (.slice ax 3 cx)).setCell ⟨w.heap.size, 3, none⟩ (.int .i64 n2)).setCell ⟨w.heap.size, 4, none⟩ (.int .i64 n3)).cell? ⟨w.heap.size, 0, none⟩ = some (.int .i64 1) := hRZ.at 0 _ rfl
    have z1 : (((((wT.setCell ⟨w.heap.size, 0, none⟩ (.int .i64 1)).setCell ⟨w.heap.size, 1, none⟩ (.int .i64 n1)).setCell ⟨w.heap.size, 2, none⟩ (.slice ax 3 cx)).setCell ⟨w.heap.size, 3, none⟩ (.int .i64 n2)).setCell ⟨w.heap.size, 4, none⟩ (.int .i64 n3)).cell? ⟨w.heap.size, 1, none⟩ = some (.int .i64 n1) := hRZ.at 1 _ rfl
    have z2 : (((((wT.setCell ⟨w.heap.size, 0, none⟩ (.int .i64 1)).setCell ⟨w.heap.size, 1, none⟩ (.int .i64 n1)).setCell ⟨w.heap.size, 2, none⟩ (.slice ax 3 cx)).setCell ⟨w.heap.size, 3, none⟩ (.int .i64 n2)).setCell ⟨w.heap.size, 4, none⟩ (.int .i64 n3)).cell? ⟨w.heap.size, 2, none⟩ = some (.slice ax 3 cx) := hRZ.at 2 _ rfl
    have z3 : (((((wT.setCell ⟨w.heap.size, 0, none⟩ (.int .i64 1)).setCell ⟨w.heap.size, 1, none⟩ (.int .i64 n1)).setCell ⟨w.heap.size, 2, none⟩ (.slice ax 3 cx)).setCell ⟨w.heap.size, 3, none⟩ (.int .i64 n2)).setCell ⟨w.heap.size, 4, none⟩ (.int .i64 n3)).cell? ⟨w.heap.size, 3, none⟩ = some (.int .i64 n2) := hRZ.at 3 _ rfl
    have z4 : (((((wT.setCell ⟨w.heap.size, 0, none⟩ (.int .i64 1)).setCell ⟨w.heap.size, 1, none⟩ (.int .i64 n1)).setCell ⟨w.heap.size, 2, none⟩ (.slice ax 3 cx)).setCell ⟨w.heap.size, 3, none⟩ (.int .i64 n2)).setCell ⟨w.heap.size, 4, none⟩ (.int .i64 n3)).cell? ⟨w.heap.size, 4, none⟩ = some (.int .i64 n3) := hRZ.at 4 _ rfl
    have HBZ : Hid (Below w.heap.size w (((((wT.setCell ⟨w.heap.size, 0, none⟩ (.int .i64 1)).setCell ⟨w.heap.size, 1, none⟩ (.int .i64 n1)).setCell ⟨w.heap.size, 2, none⟩ (.slice ax 3 cx)).setCell ⟨w.heap.size, 3, none⟩ (.int .i64 n2)).setCell ⟨w.heap.size, 4, none⟩ (.int .i64 n3))) := (unhide HBT).trans (hE.below (by have := (unhide HBT).size; omega) (fun k hk e => by omega))
    clear hHeld hE hRZ hRT
    generalize (((((wT.setCell ⟨w.heap.size, 0, none⟩ (.int .i64 1)).setCell ⟨w.heap.size, 1, none⟩ (.int .i64 n1)).setCell ⟨w.heap.size, 2, none⟩ (.slice ax 3 cx)).setCell ⟨w.heap.size, 3, none⟩ (.int .i64 n2)).setCell ⟨w.heap.size, 4, none⟩ (.int .i64 n3)) = wZ at *
    go_wp2_with fail
    refine bodyPost_ret (v := .tuple #[.agg #[.int .i64 1, .int .i64 n1, .slice ax 3 cx, .int .i64 n2, .int .i64 n3], .bool false]) (by simp [results, Tryz.results23, go_sem, z0, z1, z2, z3, z4]) rfl ?_
    exact ⟨_, _, _, _, _, _, _, false, rfl, (fun h => by cases h), fun _ => by rw [unhide HL]; simp, unhide HBZ⟩
  | true =>
    cases o2 with
    | false =>
      have hRT : Box 0 #[.int .i64 0, .int .i64 0, .slice none 0 0, .int .i64 0, .int .i64 0] 27 w6.drew w.heap.size := hR
      have HBT := hide (unhide HB6).drew
      refine wp_region_noPanic ?_
      refine wp_region_held_drew (S := fun w' => Ext (fun c => c = w.heap.size) w6 w') (by kernel_rfl) ⟨rfl, rfl, rfl, Nat.le_refl _, fun _ _ _ => rfl⟩ (fun hHeld => ?_)
      generalize w6.drew = wT at hHeld hRT HBT ⊢
      refine wpAnyH_take (i := 0) (oi := { dst := some 70, op := Go.Op.load 27 (Go.Operand.tmp 14), type := 27, pos := "l03_write.go:214", after := #[], guard := none }) (v := ?vr10) rfl (by kernel_rfl) (by kernel_rfl) (by kernel_rfl) (fun _ _ _ h => h) (Or.inl ⟨by rfl, ?hr10⟩) hHeld ?rr10
      case hr10 =>
        intro wS hSw
        have y0 : wS.cell? ⟨pQ, 0, none⟩ = some (.int .i64 1) := (hQ.ext hSw (by omega)).at 0 _ rfl
        have y1 : wS.cell? ⟨pQ, 1, none⟩ = some (.int .i64 n1) := (hQ.ext hSw (by omega)).at 1 _ rfl
        have y2 : wS.cell? ⟨pQ, 2, none⟩ = some (.slice ax 3 cx) := (hQ.ext hSw (by omega)).at 2 _ rfl
        have y3 : wS.cell? ⟨pQ, 3, none⟩ = some (.int .i64 n2) := (hQ.ext hSw (by omega)).at 3 _ rfl
        have y4 : wS.cell? ⟨pQ, 4, none⟩ = some (.int .i64 n3) := (hQ.ext hSw (by omega)).at 4 _ rfl
        clear hSw
        (try dsimp only at hSw)
        go_simp
        try with_reducible rfl
      case rr10 =>
      simp only [Act.put, List.setIfInBounds_toArray, List.set_cons_zero, List.set_cons_succ]
      refine wpAnyH_take (i := 1) (oi := { dst := some 71, op := Go.Op.move (Go.Operand.tmp 9), type := 4, pos := "l03_write.go:214", after := #[], guard := none }) (v := ?vr11) rfl (by kernel_rfl) (by kernel_rfl) (by kernel_rfl) (fun _ _ _ h => h) (Or.inl ⟨by rfl, ?hr11⟩) hHeld ?rr11
      case hr11 =>
        intro wS hSw
        (try dsimp only at hSw)
        go_simp
        try with_reducible rfl
      case rr11 =>
      simp only [Act.put, List.setIfInBounds_toArray, List.set_cons_zero, List.set_cons_succ]
      refine wpAnyH_take (i := 2) (oi := { dst := some 72, op := Go.Op.move (Go.Operand.tmp 71), type := 4, pos := "l03_write.go:214", after := #[{ on := 1, ground := Go.Ground.data }], guard := none }) (v := ?vr12) rfl (by kernel_rfl) (by kernel_rfl) (by kernel_rfl) (fun _ _ _ h => h) (Or.inl ⟨by rfl, ?hr12⟩) hHeld ?rr12
      case hr12 =>
        intro wS hSw
        (try dsimp only at hSw)
        go_simp
        try with_reducible rfl
      case rr12 =>
      simp only [Act.put, List.setIfInBounds_toArray, List.set_cons_zero, List.set_cons_succ]
      refine wpAnyH_take (i := 3) (oi := { dst := some 73, op := Go.Op.move (Go.Operand.tmp 11), type := 4, pos := "l03_write.go:214", after := #[{ on := 2, ground := Go.Ground.guard }], guard := some (2, true) }) (v := ?vr13) rfl (by kernel_rfl) (by kernel_rfl) (by kernel_rfl) (fun _ _ _ h => h) (Or.inl ⟨by rfl, ?hr13⟩) hHeld ?rr13
      case hr13 =>
        intro wS hSw
        (try dsimp only at hSw)
        go_simp
        try with_reducible rfl
      case rr13 =>
      simp only [Act.put, List.setIfInBounds_toArray, List.set_cons_zero, List.set_cons_succ]
      refine wpAnyH_take (i := 4) (oi := { dst := some 74, op := Go.Op.pick (Go.Operand.tmp 72) (Go.Operand.tmp 73) (Go.Operand.const (Go.Value.bool false)), type := 4, pos := "l03_write.go:214", after := #[{ on := 2, ground := Go.Ground.data }, { on := 3, ground := Go.Ground.data }], guard := none }) (v := ?vr14) rfl (by kernel_rfl) (by kernel_rfl) (by kernel_rfl) (fun _ _ _ h => h) (Or.inl ⟨by rfl, ?hr14⟩) hHeld ?rr14
      case hr14 =>
        intro wS hSw
        (try dsimp only at hSw)
        go_simp
        try with_reducible rfl
      case rr14 =>
      simp only [Act.put, List.setIfInBounds_toArray, List.set_cons_zero, List.set_cons_succ]
      refine wpAnyH_take (i := 5) (oi := { dst := some 75, op := Go.Op.move (Go.Operand.tmp 74), type := 4, pos := "l03_write.go:214", after := #[{ on := 4, ground := Go.Ground.data }, { on := 2, ground := Go.Ground.chain }], guard := none }) (v := ?vr15) rfl (by kernel_rfl) (by kernel_rfl) (by kernel_rfl) (fun _ _ _ h => h) (Or.inl ⟨by rfl, ?hr15⟩) hHeld ?rr15
      case hr15 =>
        intro wS hSw
        (try dsimp only at hSw)
        go_simp
        try with_reducible rfl
      case rr15 =>
      simp only [Act.put, List.setIfInBounds_toArray, List.set_cons_zero, List.set_cons_succ]
      refine wpAnyH_take (i := 6) (oi := { dst := some 76, op := Go.Op.move (Go.Operand.tmp 13), type := 4, pos := "l03_write.go:214", after := #[{ on := 5, ground := Go.Ground.guard }], guard := some (5, true) }) (v := undef) rfl (by kernel_rfl) (by kernel_rfl) (by kernel_rfl) (fun _ _ _ h => h) (Or.inr ⟨by rfl, rfl⟩) hHeld ?_
      simp only [Act.put, List.setIfInBounds_toArray, List.set_cons_zero, List.set_cons_succ]
      refine wpAnyH_take (i := 7) (oi := { dst := some 77, op := Go.Op.pick (Go.Operand.tmp 75) (Go.Operand.tmp 76) (Go.Operand.const (Go.Value.bool false)), type := 4, pos := "l03_write.go:214", after := #[{ on := 5, ground := Go.Ground.data }, { on := 6, ground := Go.Ground.data }], guard := none }) (v := ?vr17) rfl (by kernel_rfl) (by kernel_rfl) (by kernel_rfl) (fun _ _ _ h => h) (Or.inl ⟨by rfl, ?hr17⟩) hHeld ?rr17
      case hr17 =>
        intro wS hSw
        (try dsimp only at hSw)
        go_simp
        try with_reducible rfl
      case rr17 =>
      simp only [Act.put, List.setIfInBounds_toArray, List.set_cons_zero, List.set_cons_succ]
      refine wpAnyH_take (i := 8) (oi := { dst := some 78, op := Go.Op.move (Go.Operand.tmp 77), type := 4, pos := "l03_write.go:214", after := #[{ on := 7, ground := Go.Ground.data }, { on := 5, ground := Go.Ground.chain }], guard := none }) (v := ?vr18) rfl (by kernel_rfl) (by kernel_rfl) (by kernel_rfl) (fun _ _ _ h => h) (Or.inl ⟨by rfl, ?hr18⟩) hHeld ?rr18
      case hr18 =>
        intro wS hSw
        (try dsimp only at hSw)
        go_simp
        try with_reducible rfl
      case rr18 =>
      simp only [Act.put, List.setIfInBounds_toArray, List.set_cons_zero, List.set_cons_succ]
      refine wpAnyH_take (i := 9) (oi := { dst := some 79, op := Go.Op.load 27 (Go.Operand.tmp 14), type := 27, pos := "l03_write.go:214", after := #[{ on := 8, ground := Go.Ground.guard }], guard := some (8, true) }) (v := undef) rfl (by kernel_rfl) (by kernel_rfl) (by kernel_rfl) (fun _ _ _ h => h) (Or.inr ⟨by rfl, rfl⟩) hHeld ?_
      simp only [Act.put, List.setIfInBounds_toArray, List.set_cons_zero, List.set_cons_succ]
      refine wpAnyH_take (i := 10) (oi := { dst := some 80, op := Go.Op.call { callee := Go.Callee.value (Go.Operand.func 16), args := #[Go.Operand.tmp 79], argTypes := #[27] }, type := 2, pos := "l03_write.go:214", after := #[{ on := 9, ground := Go.Ground.data }, { on := 8, ground := Go.Ground.chain }, { on := 8, ground := Go.Ground.guard }], guard := some (8, true) }) (v := undef) rfl (by kernel_rfl) (by kernel_rfl) (by kernel_rfl) (fun _ _ _ h => h) (Or.inr ⟨by rfl, rfl⟩) hHeld ?_
      simp only [Act.put, List.setIfInBounds_toArray, List.set_cons_zero, List.set_cons_succ]
      refine wpAnyH_take (i := 11) (oi := { dst := some 81, op := Go.Op.binOp Go.BinOp.eql 2 (Go.Operand.tmp 80) (Go.Operand.const (Go.Value.int Go.IntKind.i64 0)) 2, type := 4, pos := "l03_write.go:214", after := #[{ on := 10, ground := Go.Ground.data }, { on := 8, ground := Go.Ground.guard }, { on := 13, ground := Go.Ground.gcOnly Go.Departure.lateStores }], guard := some (8, true) }) (v := undef) rfl (by kernel_rfl) (by kernel_rfl) (by kernel_rfl) (fun _ _ _ h => h) (Or.inr ⟨by rfl, rfl⟩) hHeld ?_
      simp only [Act.put, List.setIfInBounds_toArray, List.set_cons_zero, List.set_cons_succ]
      refine wpAnyH_take (i := 12) (oi := { dst := some 82, op := Go.Op.pick (Go.Operand.tmp 78) (Go.Operand.tmp 81) (Go.Operand.const (Go.Value.bool false)), type := 4, pos := "l03_write.go:214", after := #[{ on := 8, ground := Go.Ground.data }, { on := 11, ground := Go.Ground.data }, { on := 13, ground := Go.Ground.gcOnly Go.Departure.lateStores }], guard := none }) (v := ?vr112) rfl (by kernel_rfl) (by kernel_rfl) (by kernel_rfl) (fun _ _ _ h => h) (Or.inl ⟨by rfl, ?hr112⟩) hHeld ?rr112
      case hr112 =>
        intro wS hSw
        (try dsimp only at hSw)
        go_simp
        try with_reducible rfl
      case rr112 =>
      simp only [Act.put, List.setIfInBounds_toArray, List.set_cons_zero, List.set_cons_succ]
      refine wpAnyH_ready (rs := [13]) (by kernel_rfl) (by simp) ?_
      refine AllReadyH.cons (o := { dst := none, op := Go.Op.store 27 (Go.Operand.tmp 2) (Go.Operand.tmp 70), type := 0, pos := "l03_write.go:214", after := #[{ on := 0, ground := Go.Ground.data }, { on := 10, ground := Go.Ground.chain }, { on := 0, ground := Go.Ground.phase }, { on := 1, ground := Go.Ground.textOnly Go.Departure.lateStores }, { on := 2, ground := Go.Ground.textOnly Go.Departure.lateStores }, { on := 3, ground := Go.Ground.textOnly Go.Departure.lateStores }, { on := 4, ground := Go.Ground.textOnly Go.Departure.lateStores }, { on := 5, ground := Go.Ground.textOnly Go.Departure.lateStores }, { on := 6, ground := Go.Ground.textOnly Go.Departure.lateStores }, { on := 7, ground := Go.Ground.textOnly Go.Departure.lateStores }, { on := 8, ground := Go.Ground.textOnly Go.Departure.lateStores }, { on := 9, ground := Go.Ground.textOnly Go.Departure.lateStores }, { on := 10, ground := Go.Ground.textOnly Go.Departure.lateStoresUnsure }, { on := 11, ground := Go.Ground.textOnly Go.Departure.lateStores }, { on := 12, ground := Go.Ground.textOnly Go.Departure.lateStores }], guard := none }) rfl (fun K hK => ?_) AllReadyH.nil
      have z0 : wT.cell? ⟨w.heap.size, 0, none⟩ = some (.int .i64 0) := (hRT).at 0 _ rfl
      have z1 : wT.cell? ⟨w.heap.size, 1, none⟩ = some (.int .i64 0) := (hRT).at 1 _ rfl
      have z2 : wT.cell? ⟨w.heap.size, 2, none⟩ = some (.slice none 0 0) := (hRT).at 2 _ rfl
      have z3 : wT.cell? ⟨w.heap.size, 3, none⟩ = some (.int .i64 0) := (hRT).at 3 _ rfl
      have z4 : wT.cell? ⟨w.heap.size, 4, none⟩ = some (.int .i64 0) := (hRT).at 4 _ rfl
      have f0 := hRT.soft 0
      have f1 := hRT.soft 1
      have f2 := hRT.soft 2
      have f3 := hRT.soft 3
      have f4 := hRT.soft 4
      have lR := hRT.lt
      go_simp
      refine hK.out _ _ (((((hHeld.setCell ⟨w.heap.size, 0, none⟩ _ rfl).setCell ⟨w.heap.size, 1, none⟩ _ rfl).setCell ⟨w.heap.size, 2, none⟩ _ rfl).setCell ⟨w.heap.size, 3, none⟩ _ rfl).setCell ⟨w.heap.size, 4, none⟩ _ rfl) (fun hHeld => ?_)
      clear hK K
      try simp only [Act.put, List.setIfInBounds_toArray, List.set_cons_zero, List.set_cons_succ]
      refine wpAnyH_take (i := 14) (oi := { dst := some 3, op := Go.Op.assign (Go.Operand.tmp 82), type := 4, pos := "l03_write.go:214", after := #[{ on := 12, ground := Go.Ground.data }, { on := 13, ground := Go.Ground.chain }, { on := 0, ground := Go.Ground.phase }, { on := 1, ground := Go.Ground.phase }, { on := 2, ground := Go.Ground.phase }, { on := 3, ground := Go.Ground.phase }, { on := 4, ground := Go.Ground.phase }, { on := 5, ground := Go.Ground.phase }, { on := 6, ground := Go.Ground.phase }, { on := 7, ground := Go.Ground.phase }, { on := 8, ground := Go.Ground.phase }, { on := 9, ground := Go.Ground.phase }, { on := 10, ground := Go.Ground.phase }, { on := 11, ground := Go.Ground.phase }, { on := 12, ground := Go.Ground.phase }, { on := 13, ground := Go.Ground.phase }], guard := none }) (v := ?vr114) rfl (by kernel_rfl) (by kernel_rfl) (by kernel_rfl) (fun _ _ _ h => h) (Or.inl ⟨by rfl, ?hr114⟩) hHeld ?rr114
      case hr114 =>
        intro wS hSw
        (try dsimp only at hSw)
        go_simp
        try with_reducible rfl
      case rr114 =>
      simp only [Act.put, List.setIfInBounds_toArray, List.set_cons_zero, List.set_cons_succ]
      refine wpAnyH_done (by kernel_rfl) ?_ _
      refine NoPanic.normal ?_
      have hE : Ext (fun c => c = w.heap.size) wT (((((wT.setCell ⟨w.heap.size, 0, none⟩ (.int .i64 1)).setCell ⟨w.heap.size, 1, none⟩ (.int .i64 n1)).setCell ⟨w.heap.size, 2, none⟩ (.slice ax 3 cx)).setCell ⟨w.heap.size, 3, none⟩ (.int .i64 n2)).setCell ⟨w.heap.size, 4, none⟩ (.int .i64 n3)) := ((((((Ext.refl (fun c => c = w.heap.size) _).setCell ⟨w.heap.size, 0, none⟩ _ rfl).setCell ⟨w.heap.size, 1, none⟩ _ rfl).setCell ⟨w.heap.size, 2, none⟩ _ rfl).setCell ⟨w.heap.size, 3, none⟩ _ rfl).setCell ⟨w.heap.size, 4, none⟩ _ rfl)
      have hRZ := (((((hRT.set 0 (.int .i64 1)).set 1 (.int .i64 n1)).set 2 (.slice ax 3 cx)).set 3 (.int .i64 n2)).set 4 (.int .i64 n3))
      have z0 : (((((wT.setCell ⟨w.heap.size, 0, none⟩ (.int .i64 1)).setCell ⟨w.heap.size, 1, none⟩ (.int .i64 n1)).setCell ⟨w.heap.size, 2, none⟩ (.slice ax 3 cx)).setCell ⟨w.heap.size, 3, none⟩ (.int .i64 n2)).setCell ⟨w.heap.size, 4, none⟩ (.int .i64 n3)).cell? ⟨w.heap.size, 0, none⟩ = some (.int .i64 1) := hRZ.at 0 _ rfl
      have z1 : (((((wT.setCell ⟨w.heap.size, 0, none⟩ (.int .i64 1)).setCell ⟨w.heap.size, 1, none⟩ (.int .i64 n1)).setCell ⟨w.heap.size, 2, none⟩ (.slice ax 3 cx)).setCell ⟨w.heap.size, 3, none⟩ (.int .i64 n2)).setCell ⟨w.heap.size, 4, none⟩ (.int .i64 n3)).cell? ⟨w.heap.size, 1, none⟩ = some (.int .i64 n1) := hRZ.at 1 _ rfl
      have z2 : (((((wT.setCell ⟨w.heap.size, 0, none⟩ (.int .i64 1)).setCell ⟨w.heap.size, 1, none⟩ (.int .i64 n1)).setCell ⟨w.heap.size, 2, none⟩ (.slice ax 3 cx)).setCell ⟨w.heap.size, 3, none⟩ (.int .i64 n2)).setCell ⟨w.heap.size, 4, none⟩ (.int .i64 n3)).cell? ⟨w.heap.size, 2, none⟩ = some (.slice ax 3 cx) := hRZ.at 2 _ rfl
      have z3 : (((((wT.setCell ⟨w.heap.size, 0, none⟩ (.int .i64 1)).setCell ⟨w.heap.size, 1, none⟩ (.int .i64 n1)).setCell ⟨w.heap.size, 2, none⟩ (.slice ax 3 cx)).setCell ⟨w.heap.size, 3, none⟩ (.int .i64 n2)).setCell ⟨w.heap.size, 4, none⟩ (.int .i64 n3)).cell? ⟨w.heap.size, 3, none⟩ = some (.int .i64 n2) := hRZ.at 3 _ rfl
      have z4 : (((((wT.setCell ⟨w.heap.size, 0, none⟩ (.int .i64 1)).setCell ⟨w.heap.size, 1, none⟩ (.int .i64 n1)).setCell ⟨w.heap.size, 2, none⟩ (.slice ax 3 cx)).setCell ⟨w.heap.size, 3, none⟩ (.int .i64 n2)).setCell ⟨w.heap.size, 4, none⟩ (.int .i64 n3)).cell? ⟨w.heap.size, 4, none⟩ = some (.int .i64 n3) := hRZ.at 4 _ rfl
      have HBZ : Hid (Below w.heap.size w (((((wT.setCell ⟨w.heap.size, 0, none⟩ (.int .i64 1)).setCell ⟨w.heap.size, 1, none⟩ (.int .i64 n1)).setCell ⟨w.heap.size, 2, none⟩ (.slice ax 3 cx)).setCell ⟨w.heap.size, 3, none⟩ (.int .i64 n2)).setCell ⟨w.heap.size, 4, none⟩ (.int .i64 n3))) := (unhide HBT).trans (hE.below (by have := (unhide HBT).size; omega) (fun k hk e => by omega))
      clear hHeld hE hRZ hRT
      generalize (((((wT.setCell ⟨w.heap.size, 0, none⟩ (.int .i64 1)).setCell ⟨w.heap.size, 1, none⟩ (.int .i64 n1)).setCell ⟨w.heap.size, 2, none⟩ (.slice ax 3 cx)).setCell ⟨w.heap.size, 3, none⟩ (.int .i64 n2)).setCell ⟨w.heap.size, 4, none⟩ (.int .i64 n3)) = wZ at *
      go_wp2_with fail
      refine bodyPost_ret (v := .tuple #[.agg #[.int .i64 1, .int .i64 n1, .slice ax 3 cx, .int .i64 n2, .int .i64 n3], .bool false]) (by simp [results, Tryz.results23, go_sem, z0, z1, z2, z3, z4]) rfl ?_
      exact ⟨_, _, _, _, _, _, _, false, rfl, (fun h => by cases h), fun _ => by rw [unhide HL]; simp, unhide HBZ⟩
    | true =>
      cases o3 with
      | false =>
        have hRT : Box 0 #[.int .i64 0, .int .i64 0, .slice none 0 0, .int .i64 0, .int .i64 0] 27 w6.drew w.heap.size := hR
        have HBT := hide (unhide HB6).drew
        refine wp_region_noPanic ?_
        refine wp_region_held_drew (S := fun w' => Ext (fun c => c = w.heap.size) w6 w') (by kernel_rfl) ⟨rfl, rfl, rfl, Nat.le_refl _, fun _ _ _ => rfl⟩ (fun hHeld => ?_)
        generalize w6.drew = wT at hHeld hRT HBT ⊢
        refine wpAnyH_take (i := 0) (oi := { dst := some 70, op := Go.Op.load 27 (Go.Operand.tmp 14), type := 27, pos := "l03_write.go:214", after := #[], guard := none }) (v := ?vr20) rfl (by kernel_rfl) (by kernel_rfl) (by kernel_rfl) (fun _ _ _ h => h) (Or.inl ⟨by rfl, ?hr20⟩) hHeld ?rr20
        case hr20 =>
          intro wS hSw
          have y0 : wS.cell? ⟨pQ, 0, none⟩ = some (.int .i64 1) := (hQ.ext hSw (by omega)).at 0 _ rfl
          have y1 : wS.cell? ⟨pQ, 1, none⟩ = some (.int .i64 n1) := (hQ.ext hSw (by omega)).at 1 _ rfl
          have y2 : wS.cell? ⟨pQ, 2, none⟩ = some (.slice ax 3 cx) := (hQ.ext hSw (by omega)).at 2 _ rfl
          have y3 : wS.cell? ⟨pQ, 3, none⟩ = some (.int .i64 n2) := (hQ.ext hSw (by omega)).at 3 _ rfl
          have y4 : wS.cell? ⟨pQ, 4, none⟩ = some (.int .i64 n3) := (hQ.ext hSw (by omega)).at 4 _ rfl
          clear hSw
          (try dsimp only at hSw)
          go_simp
          try with_reducible rfl
        case rr20 =>
        simp only [Act.put, List.setIfInBounds_toArray, List.set_cons_zero, List.set_cons_succ]
        refine wpAnyH_take (i := 1) (oi := { dst := some 71, op := Go.Op.move (Go.Operand.tmp 9), type := 4, pos := "l03_write.go:214", after := #[], guard := none }) (v := ?vr21) rfl (by kernel_rfl) (by kernel_rfl) (by kernel_rfl) (fun _ _ _ h => h) (Or.inl ⟨by rfl, ?hr21⟩) hHeld ?rr21
        case hr21 =>
          intro wS hSw
          (try dsimp only at hSw)
          go_simp
          try with_reducible rfl
        case rr21 =>
        simp only [Act.put, List.setIfInBounds_toArray, List.set_cons_zero, List.set_cons_succ]
        refine wpAnyH_take (i := 2) (oi := { dst := some 72, op := Go.Op.move (Go.Operand.tmp 71), type := 4, pos := "l03_write.go:214", after := #[{ on := 1, ground := Go.Ground.data }], guard := none }) (v := ?vr22) rfl (by kernel_rfl) (by kernel_rfl) (by kernel_rfl) (fun _ _ _ h => h) (Or.inl ⟨by rfl, ?hr22⟩) hHeld ?rr22
        case hr22 =>
          intro wS hSw
          (try dsimp only at hSw)
          go_simp
          try with_reducible rfl
        case rr22 =>
        simp only [Act.put, List.setIfInBounds_toArray, List.set_cons_zero, List.set_cons_succ]
        refine wpAnyH_take (i := 3) (oi := { dst := some 73, op := Go.Op.move (Go.Operand.tmp 11), type := 4, pos := "l03_write.go:214", after := #[{ on := 2, ground := Go.Ground.guard }], guard := some (2, true) }) (v := ?vr23) rfl (by kernel_rfl) (by kernel_rfl) (by kernel_rfl) (fun _ _ _ h => h) (Or.inl ⟨by rfl, ?hr23⟩) hHeld ?rr23
        case hr23 =>
          intro wS hSw
          (try dsimp only at hSw)
          go_simp
          try with_reducible rfl
        case rr23 =>
        simp only [Act.put, List.setIfInBounds_toArray, List.set_cons_zero, List.set_cons_succ]
        refine wpAnyH_take (i := 4) (oi := { dst := some 74, op := Go.Op.pick (Go.Operand.tmp 72) (Go.Operand.tmp 73) (Go.Operand.const (Go.Value.bool false)), type := 4, pos := "l03_write.go:214", after := #[{ on := 2, ground := Go.Ground.data }, { on := 3, ground := Go.Ground.data }], guard := none }) (v := ?vr24) rfl (by kernel_rfl) (by kernel_rfl) (by kernel_rfl) (fun _ _ _ h => h) (Or.inl ⟨by rfl, ?hr24⟩) hHeld ?rr24
        case hr24 =>
          intro wS hSw
          (try dsimp only at hSw)
          go_simp
          try with_reducible rfl
        case rr24 =>
        simp only [Act.put, List.setIfInBounds_toArray, List.set_cons_zero, List.set_cons_succ]
        refine wpAnyH_take (i := 5) (oi := { dst := some 75, op := Go.Op.move (Go.Operand.tmp 74), type := 4, pos := "l03_write.go:214", after := #[{ on := 4, ground := Go.Ground.data }, { on := 2, ground := Go.Ground.chain }], guard := none }) (v := ?vr25) rfl (by kernel_rfl) (by kernel_rfl) (by kernel_rfl) (fun _ _ _ h => h) (Or.inl ⟨by rfl, ?hr25⟩) hHeld ?rr25
        case hr25 =>
          intro wS hSw
          (try dsimp only at hSw)
          go_simp
          try with_reducible rfl
        case rr25 =>
        simp only [Act.put, List.setIfInBounds_toArray, List.set_cons_zero, List.set_cons_succ]
        refine wpAnyH_take (i := 6) (oi := { dst := some 76, op := Go.Op.move (Go.Operand.tmp 13), type := 4, pos := "l03_write.go:214", after := #[{ on := 5, ground := Go.Ground.guard }], guard := some (5, true) }) (v := ?vr26) rfl (by kernel_rfl) (by kernel_rfl) (by kernel_rfl) (fun _ _ _ h => h) (Or.inl ⟨by rfl, ?hr26⟩) hHeld ?rr26
        case hr26 =>
          intro wS hSw
          (try dsimp only at hSw)
          go_simp
          try with_reducible rfl
        case rr26 =>
        simp only [Act.put, List.setIfInBounds_toArray, List.set_cons_zero, List.set_cons_succ]
        refine wpAnyH_take (i := 7) (oi := { dst := some 77, op := Go.Op.pick (Go.Operand.tmp 75) (Go.Operand.tmp 76) (Go.Operand.const (Go.Value.bool false)), type := 4, pos := "l03_write.go:214", after := #[{ on := 5, ground := Go.Ground.data }, { on := 6, ground := Go.Ground.data }], guard := none }) (v := ?vr27) rfl (by kernel_rfl) (by kernel_rfl) (by kernel_rfl) (fun _ _ _ h => h) (Or.inl ⟨by rfl, ?hr27⟩) hHeld ?rr27
        case hr27 =>
          intro wS hSw
          (try dsimp only at hSw)
          go_simp
          try with_reducible rfl
        case rr27 =>
        simp only [Act.put, List.setIfInBounds_toArray, List.set_cons_zero, List.set_cons_succ]
        refine wpAnyH_take (i := 8) (oi := { dst := some 78, op := Go.Op.move (Go.Operand.tmp 77), type := 4, pos := "l03_write.go:214", after := #[{ on := 7, ground := Go.Ground.data }, { on := 5, ground := Go.Ground.chain }], guard := none }) (v := ?vr28) rfl (by kernel_rfl) (by kernel_rfl) (by kernel_rfl) (fun _ _ _ h => h) (Or.inl ⟨by rfl, ?hr28⟩) hHeld ?rr28
        case hr28 =>
          intro wS hSw
          (try dsimp only at hSw)
          go_simp
          try with_reducible rfl
        case rr28 =>
        simp only [Act.put, List.setIfInBounds_toArray, List.set_cons_zero, List.set_cons_succ]
        refine wpAnyH_take (i := 9) (oi := { dst := some 79, op := Go.Op.load 27 (Go.Operand.tmp 14), type := 27, pos := "l03_write.go:214", after := #[{ on := 8, ground := Go.Ground.guard }], guard := some (8, true) }) (v := undef) rfl (by kernel_rfl) (by kernel_rfl) (by kernel_rfl) (fun _ _ _ h => h) (Or.inr ⟨by rfl, rfl⟩) hHeld ?_
        simp only [Act.put, List.setIfInBounds_toArray, List.set_cons_zero, List.set_cons_succ]
        refine wpAnyH_take (i := 10) (oi := { dst := some 80, op := Go.Op.call { callee := Go.Callee.value (Go.Operand.func 16), args := #[Go.Operand.tmp 79], argTypes := #[27] }, type := 2, pos := "l03_write.go:214", after := #[{ on := 9, ground := Go.Ground.data }, { on := 8, ground := Go.Ground.chain }, { on := 8, ground := Go.Ground.guard }], guard := some (8, true) }) (v := undef) rfl (by kernel_rfl) (by kernel_rfl) (by kernel_rfl) (fun _ _ _ h => h) (Or.inr ⟨by rfl, rfl⟩) hHeld ?_
        simp only [Act.put, List.setIfInBounds_toArray, List.set_cons_zero, List.set_cons_succ]
        refine wpAnyH_take (i := 11) (oi := { dst := some 81, op := Go.Op.binOp Go.BinOp.eql 2 (Go.Operand.tmp 80) (Go.Operand.const (Go.Value.int Go.IntKind.i64 0)) 2, type := 4, pos := "l03_write.go:214", after := #[{ on := 10, ground := Go.Ground.data }, { on := 8, ground := Go.Ground.guard }, { on := 13, ground := Go.Ground.gcOnly Go.Departure.lateStores }], guard := some (8, true) }) (v := undef) rfl (by kernel_rfl) (by kernel_rfl) (by kernel_rfl) (fun _ _ _ h => h) (Or.inr ⟨by rfl, rfl⟩) hHeld ?_
        simp only [Act.put, List.setIfInBounds_toArray, List.set_cons_zero, List.set_cons_succ]
        refine wpAnyH_take (i := 12) (oi := { dst := some 82, op := Go.Op.pick (Go.Operand.tmp 78) (Go.Operand.tmp 81) (Go.Operand.const (Go.Value.bool false)), type := 4, pos := "l03_write.go:214", after := #[{ on := 8, ground := Go.Ground.data }, { on := 11, ground := Go.Ground.data }, { on := 13, ground := Go.Ground.gcOnly Go.Departure.lateStores }], guard := none }) (v := ?vr212) rfl (by kernel_rfl) (by kernel_rfl) (by kernel_rfl) (fun _ _ _ h => h) (Or.inl ⟨by rfl, ?hr212⟩) hHeld ?rr212
        case hr212 =>
          intro wS hSw
          (try dsimp only at hSw)
          go_simp
          try with_reducible rfl
        case rr212 =>
        simp only [Act.put, List.setIfInBounds_toArray, List.set_cons_zero, List.set_cons_succ]
        refine wpAnyH_ready (rs := [13]) (by kernel_rfl) (by simp) ?_
        refine AllReadyH.cons (o := { dst := none, op := Go.Op.store 27 (Go.Operand.tmp 2) (Go.Operand.tmp 70), type := 0, pos := "l03_write.go:214", after := #[{ on := 0, ground := Go.Ground.data }, { on := 10, ground := Go.Ground.chain }, { on := 0, ground := Go.Ground.phase }, { on := 1, ground := Go.Ground.textOnly Go.Departure.lateStores }, { on := 2, ground := Go.Ground.textOnly Go.Departure.lateStores }, { on := 3, ground := Go.Ground.textOnly Go.Departure.lateStores }, { on := 4, ground := Go.Ground.textOnly Go.Departure.lateStores }, { on := 5, ground := Go.Ground.textOnly Go.Departure.lateStores }, { on := 6, ground := Go.Ground.textOnly Go.Departure.lateStores }, { on := 7, ground := Go.Ground.textOnly Go.Departure.lateStores }, { on := 8, ground := Go.Ground.textOnly Go.Departure.lateStores }, { on := 9, ground := Go.Ground.textOnly Go.Departure.lateStores }, { on := 10, ground := Go.Ground.textOnly Go.Departure.lateStoresUnsure }, { on := 11, ground := Go.Ground.textOnly Go.Departure.lateStores }, { on := 12, ground := Go.Ground.textOnly Go.Departure.lateStores }], guard := none }) rfl (fun K hK => ?_) AllReadyH.nil
        have z0 : wT.cell? ⟨w.heap.size, 0, none⟩ = some (.int .i64 0) := (hRT).at 0 _ rfl
        have z1 : wT.cell? ⟨w.heap.size, 1, none⟩ = some (.int .i64 0) := (hRT).at 1 _ rfl
        have z2 : wT.cell? ⟨w.heap.size, 2, none⟩ = some (.slice none 0 0) := (hRT).at 2 _ rfl
        have z3 : wT.cell? ⟨w.heap.size, 3, none⟩ = some (.int .i64 0) := (hRT).at 3 _ rfl
        have z4 : wT.cell? ⟨w.heap.size, 4, none⟩ = some (.int .i64 0) := (hRT).at 4 _ rfl
        have f0 := hRT.soft 0
        have f1 := hRT.soft 1
        have f2 := hRT.soft 2
        have f3 := hRT.soft 3
        have f4 := hRT.soft 4
        have lR := hRT.lt
        go_simp
        refine hK.out _ _ (((((hHeld.setCell ⟨w.heap.size, 0, none⟩ _ rfl).setCell ⟨w.heap.size, 1, none⟩ _ rfl).setCell ⟨w.heap.size, 2, none⟩ _ rfl).setCell ⟨w.heap.size, 3, none⟩ _ rfl).setCell ⟨w.heap.size, 4, none⟩ _ rfl) (fun hHeld => ?_)
        clear hK K
        try simp only [Act.put, List.setIfInBounds_toArray, List.set_cons_zero, List.set_cons_succ]
        refine wpAnyH_take (i := 14) (oi := { dst := some 3, op := Go.Op.assign (Go.Operand.tmp 82), type := 4, pos := "l03_write.go:214", after := #[{ on := 12, ground := Go.Ground.data }, { on := 13, ground := Go.Ground.chain }, { on := 0, ground := Go.Ground.phase }, { on := 1, ground := Go.Ground.phase }, { on := 2, ground := Go.Ground.phase }, { on := 3, ground := Go.Ground.phase }, { on := 4, ground := Go.Ground.phase }, { on := 5, ground := Go.Ground.phase }, { on := 6, ground := Go.Ground.phase }, { on := 7, ground := Go.Ground.phase }, { on := 8, ground := Go.Ground.phase }, { on := 9, ground := Go.Ground.phase }, { on := 10, ground := Go.Ground.phase }, { on := 11, ground := Go.Ground.phase }, { on := 12, ground := Go.Ground.phase }, { on := 13, ground := Go.Ground.phase }], guard := none }) (v := ?vr214) rfl (by kernel_rfl) (by kernel_rfl) (by kernel_rfl) (fun _ _ _ h => h) (Or.inl ⟨by rfl, ?hr214⟩) hHeld ?rr214
        case hr214 =>
          intro wS hSw
          (try dsimp only at hSw)
          go_simp
          try with_reducible rfl
        case rr214 =>
        simp only [Act.put, List.setIfInBounds_toArray, List.set_cons_zero, List.set_cons_succ]
        refine wpAnyH_done (by kernel_rfl) ?_ _
        refine NoPanic.normal ?_
        have hE : Ext (fun c => c = w.heap.size) wT (((((wT.setCell ⟨w.heap.size, 0, none⟩ (.int .i64 1)).setCell ⟨w.heap.size, 1, none⟩ (.int .i64 n1)).setCell ⟨w.heap.size, 2, none⟩ (.slice ax 3 cx)).setCell ⟨w.heap.size, 3, none⟩ (.int .i64 n2)).setCell ⟨w.heap.size, 4, none⟩ (.int .i64 n3)) := ((((((Ext.refl (fun c => c = w.heap.size) _).setCell ⟨w.heap.size, 0, none⟩ _ rfl).setCell ⟨w.heap.size, 1, none⟩ _ rfl).setCell ⟨w.heap.size, 2, none⟩ _ rfl).setCell ⟨w.heap.size, 3, none⟩ _ rfl).setCell ⟨w.heap.size, 4, none⟩ _ rfl)
        have hRZ := (((((hRT.set 0 (.int .i64 1)).set 1 (.int .i64 n1)).set 2 (.slice ax 3 cx)).set 3 (.int .i64 n2)).set 4 (.int .i64 n3))
        have z0 : (((((wT.setCell ⟨w.heap.size, 0, none⟩ (.int .i64 1)).setCell ⟨w.heap.size, 1, none⟩ (.int .i64 n1)).setCell ⟨w.heap.size, 2, none⟩ (.slice ax 3 cx)).setCell ⟨w.heap.size, 3, none⟩ (.int .i64 n2)).setCell ⟨w.heap.size, 4, none⟩ (.int .i64 n3)).cell? ⟨w.heap.size, 0, none⟩ = some (.int .i64 1) := hRZ.at 0 _ rfl
        have z1 : (((((wT.setCell ⟨w.heap.size, 0, none⟩ (.int .i64 1)).setCell ⟨w.heap.size, 1, none⟩ (.int .i64 n1)).setCell ⟨w.heap.size, 2, none⟩ (.slice ax 3 cx)).setCell ⟨w.heap.size, 3, none⟩ (.int .i64 n2)).setCell ⟨w.heap.size, 4, none⟩ (.int .i64 n3)).cell? ⟨w.heap.size, 1, none⟩ = some (.int .i64 n1) := hRZ.at 1 _ rfl
        have z2 : (((((wT.setCell ⟨w.heap.size, 0, none⟩ (.int .i64 1)).setCell ⟨w.heap.size, 1, none⟩ (.int .i64 n1)).setCell ⟨w.heap.size, 2, none⟩ (.slice ax 3 cx)).setCell ⟨w.heap.size, 3, none⟩ (.int .i64 n2)).setCell ⟨w.heap.size, 4, none⟩ (.int .i64 n3)).cell? ⟨w.heap.size, 2, none⟩ = some (.slice ax 3 cx) := hRZ.at 2 _ rfl
        have z3 : (((((wT.setCell ⟨w.heap.size, 0, none⟩ (.int .i64 1)).setCell ⟨w.heap.size, 1, none⟩ (.int .i64 n1)).setCell ⟨w.heap.size, 2, none⟩ (.slice ax 3 cx)).setCell ⟨w.heap.size, 3, none⟩ (.int .i64 n2)).setCell ⟨w.heap.size, 4, none⟩ (.int .i64 n3)).cell? ⟨w.heap.size, 3, none⟩ = some (.int .i64 n2) := hRZ.at 3 _ rfl
        have z4 : (((((wT.setCell ⟨w.heap.size, 0, none⟩ (.int .i64 1)).setCell ⟨w.heap.size, 1, none⟩ (.int .i64 n1)).setCell ⟨w.heap.size, 2, none⟩ (.slice ax 3 cx)).setCell ⟨w.heap.size, 3, none⟩ (.int .i64 n2)).setCell ⟨w.heap.size, 4, none⟩ (.int .i64 n3)).cell? ⟨w.heap.size, 4, none⟩ = some (.int .i64 n3) := hRZ.at 4 _ rfl
        have HBZ : Hid (Below w.heap.size w (((((wT.setCell ⟨w.heap.size, 0, none⟩ (.int .i64 1)).setCell ⟨w.heap.size, 1, none⟩ (.int .i64 n1)).setCell ⟨w.heap.size, 2, none⟩ (.slice ax 3 cx)).setCell ⟨w.heap.size, 3, none⟩ (.int .i64 n2)).setCell ⟨w.heap.size, 4, none⟩ (.int .i64 n3))) := (unhide HBT).trans (hE.below (by have := (unhide HBT).size; omega) (fun k hk e => by omega))
        clear hHeld hE hRZ hRT
        generalize (((((wT.setCell ⟨w.heap.size, 0, none⟩ (.int .i64 1)).setCell ⟨w.heap.size, 1, none⟩ (.int .i64 n1)).setCell ⟨w.heap.size, 2, none⟩ (.slice ax 3 cx)).setCell ⟨w.heap.size, 3, none⟩ (.int .i64 n2)).setCell ⟨w.heap.size, 4, none⟩ (.int .i64 n3)) = wZ at *
        go_wp2_with fail
        refine bodyPost_ret (v := .tuple #[.agg #[.int .i64 1, .int .i64 n1, .slice ax 3 cx, .int .i64 n2, .int .i64 n3], .bool false]) (by simp [results, Tryz.results23, go_sem, z0, z1, z2, z3, z4]) rfl ?_
        exact ⟨_, _, _, _, _, _, _, false, rfl, (fun h => by cases h), fun _ => by rw [unhide HL]; simp, unhide HBZ⟩
      | true =>
        have hRT : Box 0 #[.int .i64 0, .int .i64 0, .slice none 0 0, .int .i64 0, .int .i64 0] 27 w6.drew w.heap.size := hR
        have HBT := hide (unhide HB6).drew
        have HVT := hide ((unhide HV).later (below_drawn (Below.refl _ _) 1))
        have hVD : (Lay.sl Lay.int).OwnIn w6.drew [.slice ax 3 cx] [p, q, r] (w.heap.size + 1) w6.drew.heap.size := unhide HVT
        clear HVT
        refine wp_region_noPanic ?_
        refine wp_region_held_drew (S := fun w' => Ext (fun c => c = w.heap.size) w6 w') (by kernel_rfl) ⟨rfl, rfl, rfl, Nat.le_refl _, fun _ _ _ => rfl⟩ (fun hHeld => ?_)
        generalize w6.drew = wT at hHeld hRT HBT hVD ⊢
        refine wpAnyH_take (i := 0) (oi := { dst := some 70, op := Go.Op.load 27 (Go.Operand.tmp 14), type := 27, pos := "l03_write.go:214", after := #[], guard := none }) (v := ?vr90) rfl (by kernel_rfl) (by kernel_rfl) (by kernel_rfl) (fun _ _ _ h => h) (Or.inl ⟨by rfl, ?hr90⟩) hHeld ?rr90
        case hr90 =>
          intro wS hSw
          have y0 : wS.cell? ⟨pQ, 0, none⟩ = some (.int .i64 1) := (hQ.ext hSw (by omega)).at 0 _ rfl
          have y1 : wS.cell? ⟨pQ, 1, none⟩ = some (.int .i64 n1) := (hQ.ext hSw (by omega)).at 1 _ rfl
          have y2 : wS.cell? ⟨pQ, 2, none⟩ = some (.slice ax 3 cx) := (hQ.ext hSw (by omega)).at 2 _ rfl
          have y3 : wS.cell? ⟨pQ, 3, none⟩ = some (.int .i64 n2) := (hQ.ext hSw (by omega)).at 3 _ rfl
          have y4 : wS.cell? ⟨pQ, 4, none⟩ = some (.int .i64 n3) := (hQ.ext hSw (by omega)).at 4 _ rfl
          clear hSw
          (try dsimp only at hSw)
          go_simp
          try with_reducible rfl
        case rr90 =>
        simp only [Act.put, List.setIfInBounds_toArray, List.set_cons_zero, List.set_cons_succ]
        refine wpAnyH_take (i := 1) (oi := { dst := some 71, op := Go.Op.move (Go.Operand.tmp 9), type := 4, pos := "l03_write.go:214", after := #[], guard := none }) (v := ?vr91) rfl (by kernel_rfl) (by kernel_rfl) (by kernel_rfl) (fun _ _ _ h => h) (Or.inl ⟨by rfl, ?hr91⟩) hHeld ?rr91
        case hr91 =>
          intro wS hSw
          (try dsimp only at hSw)
          go_simp
          try with_reducible rfl
        case rr91 =>
        simp only [Act.put, List.setIfInBounds_toArray, List.set_cons_zero, List.set_cons_succ]
        refine wpAnyH_take (i := 2) (oi := { dst := some 72, op := Go.Op.move (Go.Operand.tmp 71), type := 4, pos := "l03_write.go:214", after := #[{ on := 1, ground := Go.Ground.data }], guard := none }) (v := ?vr92) rfl (by kernel_rfl) (by kernel_rfl) (by kernel_rfl) (fun _ _ _ h => h) (Or.inl ⟨by rfl, ?hr92⟩) hHeld ?rr92
        case hr92 =>
          intro wS hSw
          (try dsimp only at hSw)
          go_simp
          try with_reducible rfl
        case rr92 =>
        simp only [Act.put, List.setIfInBounds_toArray, List.set_cons_zero, List.set_cons_succ]
        refine wpAnyH_take (i := 3) (oi := { dst := some 73, op := Go.Op.move (Go.Operand.tmp 11), type := 4, pos := "l03_write.go:214", after := #[{ on := 2, ground := Go.Ground.guard }], guard := some (2, true) }) (v := ?vr93) rfl (by kernel_rfl) (by kernel_rfl) (by kernel_rfl) (fun _ _ _ h => h) (Or.inl ⟨by rfl, ?hr93⟩) hHeld ?rr93
        case hr93 =>
          intro wS hSw
          (try dsimp only at hSw)
          go_simp
          try with_reducible rfl
        case rr93 =>
        simp only [Act.put, List.setIfInBounds_toArray, List.set_cons_zero, List.set_cons_succ]
        refine wpAnyH_take (i := 4) (oi := { dst := some 74, op := Go.Op.pick (Go.Operand.tmp 72) (Go.Operand.tmp 73) (Go.Operand.const (Go.Value.bool false)), type := 4, pos := "l03_write.go:214", after := #[{ on := 2, ground := Go.Ground.data }, { on := 3, ground := Go.Ground.data }], guard := none }) (v := ?vr94) rfl (by kernel_rfl) (by kernel_rfl) (by kernel_rfl) (fun _ _ _ h => h) (Or.inl ⟨by rfl, ?hr94⟩) hHeld ?rr94
        case hr94 =>
          intro wS hSw
          (try dsimp only at hSw)
          go_simp
          try with_reducible rfl
        case rr94 =>
        simp only [Act.put, List.setIfInBounds_toArray, List.set_cons_zero, List.set_cons_succ]
        refine wpAnyH_take (i := 5) (oi := { dst := some 75, op := Go.Op.move (Go.Operand.tmp 74), type := 4, pos := "l03_write.go:214", after := #[{ on := 4, ground := Go.Ground.data }, { on := 2, ground := Go.Ground.chain }], guard := none }) (v := ?vr95) rfl (by kernel_rfl) (by kernel_rfl) (by kernel_rfl) (fun _ _ _ h => h) (Or.inl ⟨by rfl, ?hr95⟩) hHeld ?rr95
        case hr95 =>
          intro wS hSw
          (try dsimp only at hSw)
          go_simp
          try with_reducible rfl
        case rr95 =>
        simp only [Act.put, List.setIfInBounds_toArray, List.set_cons_zero, List.set_cons_succ]
        refine wpAnyH_take (i := 6) (oi := { dst := some 76, op := Go.Op.move (Go.Operand.tmp 13), type := 4, pos := "l03_write.go:214", after := #[{ on := 5, ground := Go.Ground.guard }], guard := some (5, true) }) (v := ?vr96) rfl (by kernel_rfl) (by kernel_rfl) (by kernel_rfl) (fun _ _ _ h => h) (Or.inl ⟨by rfl, ?hr96⟩) hHeld ?rr96
        case hr96 =>
          intro wS hSw
          (try dsimp only at hSw)
          go_simp
          try with_reducible rfl
        case rr96 =>
        simp only [Act.put, List.setIfInBounds_toArray, List.set_cons_zero, List.set_cons_succ]
        refine wpAnyH_take (i := 7) (oi := { dst := some 77, op := Go.Op.pick (Go.Operand.tmp 75) (Go.Operand.tmp 76) (Go.Operand.const (Go.Value.bool false)), type := 4, pos := "l03_write.go:214", after := #[{ on := 5, ground := Go.Ground.data }, { on := 6, ground := Go.Ground.data }], guard := none }) (v := ?vr97) rfl (by kernel_rfl) (by kernel_rfl) (by kernel_rfl) (fun _ _ _ h => h) (Or.inl ⟨by rfl, ?hr97⟩) hHeld ?rr97
        case hr97 =>
          intro wS hSw
          (try dsimp only at hSw)
          go_simp
          try with_reducible rfl
        case rr97 =>
        simp only [Act.put, List.setIfInBounds_toArray, List.set_cons_zero, List.set_cons_succ]
        refine wpAnyH_take (i := 8) (oi := { dst := some 78, op := Go.Op.move (Go.Operand.tmp 77), type := 4, pos := "l03_write.go:214", after := #[{ on := 7, ground := Go.Ground.data }, { on := 5, ground := Go.Ground.chain }], guard := none }) (v := ?vr98) rfl (by kernel_rfl) (by kernel_rfl) (by kernel_rfl) (fun _ _ _ h => h) (Or.inl ⟨by rfl, ?hr98⟩) hHeld ?rr98
        case hr98 =>
          intro wS hSw
          (try dsimp only at hSw)
          go_simp
          try with_reducible rfl
        case rr98 =>
        simp only [Act.put, List.setIfInBounds_toArray, List.set_cons_zero, List.set_cons_succ]
        refine wpAnyH_take (i := 9) (oi := { dst := some 79, op := Go.Op.load 27 (Go.Operand.tmp 14), type := 27, pos := "l03_write.go:214", after := #[{ on := 8, ground := Go.Ground.guard }], guard := some (8, true) }) (v := ?vr99) rfl (by kernel_rfl) (by kernel_rfl) (by kernel_rfl) (fun _ _ _ h => h) (Or.inl ⟨by rfl, ?hr99⟩) hHeld ?rr99
        case hr99 =>
          intro wS hSw
          have y0 : wS.cell? ⟨pQ, 0, none⟩ = some (.int .i64 1) := (hQ.ext hSw (by omega)).at 0 _ rfl
          have y1 : wS.cell? ⟨pQ, 1, none⟩ = some (.int .i64 n1) := (hQ.ext hSw (by omega)).at 1 _ rfl
          have y2 : wS.cell? ⟨pQ, 2, none⟩ = some (.slice ax 3 cx) := (hQ.ext hSw (by omega)).at 2 _ rfl
          have y3 : wS.cell? ⟨pQ, 3, none⟩ = some (.int .i64 n2) := (hQ.ext hSw (by omega)).at 3 _ rfl
          have y4 : wS.cell? ⟨pQ, 4, none⟩ = some (.int .i64 n3) := (hQ.ext hSw (by omega)).at 4 _ rfl
          clear hSw
          (try dsimp only at hSw)
          go_simp
          try with_reducible rfl
        case rr99 =>
        simp only [Act.put, List.setIfInBounds_toArray, List.set_cons_zero, List.set_cons_succ]
        refine wpAnyH_ready (rs := [10]) (by kernel_rfl) (by simp) ?_
        refine AllReadyH.cons (o := { dst := some 80, op := Go.Op.call { callee := Go.Callee.value (Go.Operand.func 16), args := #[Go.Operand.tmp 79], argTypes := #[27] }, type := 2, pos := "l03_write.go:214", after := #[{ on := 9, ground := Go.Ground.data }, { on := 8, ground := Go.Ground.chain }, { on := 8, ground := Go.Ground.guard }], guard := some (8, true) }) rfl (fun K hK => ?_) AllReadyH.nil
        go_simp
        go_at_call 16
        refine (implWriteFault 1 n1 (.slice ax 3 cx) n2 n3 [p, q, r] _ (Lay.ints_reads hVD.reads)).mono ?_
        rintro e w8 ⟨rfl, hb8⟩
        have hRT8 := hRT.keep hb8
        have HBT8 := hide ((unhide HBT).trans (hb8.mono (unhide HBT).size))
        have hVD8 := hVD.later hb8
        try go_wp2_with fail
        refine hK.out _ _ (hHeld.trans (ext_of_below hb8 _)) (fun hHeld => ?_)
        clear hK K
        try simp only [Act.put, List.setIfInBounds_toArray, List.set_cons_zero, List.set_cons_succ]
        refine wpAnyH_take (i := 11) (oi := { dst := some 81, op := Go.Op.binOp Go.BinOp.eql 2 (Go.Operand.tmp 80) (Go.Operand.const (Go.Value.int Go.IntKind.i64 0)) 2, type := 4, pos := "l03_write.go:214", after := #[{ on := 10, ground := Go.Ground.data }, { on := 8, ground := Go.Ground.guard }, { on := 13, ground := Go.Ground.gcOnly Go.Departure.lateStores }], guard := some (8, true) }) (v := ?vr911) rfl (by kernel_rfl) (by kernel_rfl) (by kernel_rfl) (fun _ _ _ h => h) (Or.inl ⟨by rfl, ?hr911⟩) hHeld ?rr911
        case hr911 =>
          intro wS hSw
          (try dsimp only at hSw)
          go_simp
          try with_reducible rfl
        case rr911 =>
        simp only [Act.put, List.setIfInBounds_toArray, List.set_cons_zero, List.set_cons_succ]
        refine wpAnyH_take (i := 12) (oi := { dst := some 82, op := Go.Op.pick (Go.Operand.tmp 78) (Go.Operand.tmp 81) (Go.Operand.const (Go.Value.bool false)), type := 4, pos := "l03_write.go:214", after := #[{ on := 8, ground := Go.Ground.data }, { on := 11, ground := Go.Ground.data }, { on := 13, ground := Go.Ground.gcOnly Go.Departure.lateStores }], guard := none }) (v := ?vr912) rfl (by kernel_rfl) (by kernel_rfl) (by kernel_rfl) (fun _ _ _ h => h) (Or.inl ⟨by rfl, ?hr912⟩) hHeld ?rr912
        case hr912 =>
          intro wS hSw
          (try dsimp only at hSw)
          go_simp
          try with_reducible rfl
        case rr912 =>
        simp only [Act.put, List.setIfInBounds_toArray, List.set_cons_zero, List.set_cons_succ]
        refine wpAnyH_ready (rs := [13]) (by kernel_rfl) (by simp) ?_
        refine AllReadyH.cons (o := { dst := none, op := Go.Op.store 27 (Go.Operand.tmp 2) (Go.Operand.tmp 70), type := 0, pos := "l03_write.go:214", after := #[{ on := 0, ground := Go.Ground.data }, { on := 10, ground := Go.Ground.chain }, { on := 0, ground := Go.Ground.phase }, { on := 1, ground := Go.Ground.textOnly Go.Departure.lateStores }, { on := 2, ground := Go.Ground.textOnly Go.Departure.lateStores }, { on := 3, ground := Go.Ground.textOnly Go.Departure.lateStores }, { on := 4, ground := Go.Ground.textOnly Go.Departure.lateStores }, { on := 5, ground := Go.Ground.textOnly Go.Departure.lateStores }, { on := 6, ground := Go.Ground.textOnly Go.Departure.lateStores }, { on := 7, ground := Go.Ground.textOnly Go.Departure.lateStores }, { on := 8, ground := Go.Ground.textOnly Go.Departure.lateStores }, { on := 9, ground := Go.Ground.textOnly Go.Departure.lateStores }, { on := 10, ground := Go.Ground.textOnly Go.Departure.lateStoresUnsure }, { on := 11, ground := Go.Ground.textOnly Go.Departure.lateStores }, { on := 12, ground := Go.Ground.textOnly Go.Departure.lateStores }], guard := none }) rfl (fun K hK => ?_) AllReadyH.nil
        have z0 : w8.cell? ⟨w.heap.size, 0, none⟩ = some (.int .i64 0) := (hRT8).at 0 _ rfl
        have z1 : w8.cell? ⟨w.heap.size, 1, none⟩ = some (.int .i64 0) := (hRT8).at 1 _ rfl
        have z2 : w8.cell? ⟨w.heap.size, 2, none⟩ = some (.slice none 0 0) := (hRT8).at 2 _ rfl
        have z3 : w8.cell? ⟨w.heap.size, 3, none⟩ = some (.int .i64 0) := (hRT8).at 3 _ rfl
        have z4 : w8.cell? ⟨w.heap.size, 4, none⟩ = some (.int .i64 0) := (hRT8).at 4 _ rfl
        have f0 := hRT8.soft 0
        have f1 := hRT8.soft 1
        have f2 := hRT8.soft 2
        have f3 := hRT8.soft 3
        have f4 := hRT8.soft 4
        have lR := hRT8.lt
        go_simp
        refine hK.out _ _ (((((hHeld.setCell ⟨w.heap.size, 0, none⟩ _ rfl).setCell ⟨w.heap.size, 1, none⟩ _ rfl).setCell ⟨w.heap.size, 2, none⟩ _ rfl).setCell ⟨w.heap.size, 3, none⟩ _ rfl).setCell ⟨w.heap.size, 4, none⟩ _ rfl) (fun hHeld => ?_)
        clear hK K
        try simp only [Act.put, List.setIfInBounds_toArray, List.set_cons_zero, List.set_cons_succ]
        refine wpAnyH_take (i := 14) (oi := { dst := some 3, op := Go.Op.assign (Go.Operand.tmp 82), type := 4, pos := "l03_write.go:214", after := #[{ on := 12, ground := Go.Ground.data }, { on := 13, ground := Go.Ground.chain }, { on := 0, ground := Go.Ground.phase }, { on := 1, ground := Go.Ground.phase }, { on := 2, ground := Go.Ground.phase }, { on := 3, ground := Go.Ground.phase }, { on := 4, ground := Go.Ground.phase }, { on := 5, ground := Go.Ground.phase }, { on := 6, ground := Go.Ground.phase }, { on := 7, ground := Go.Ground.phase }, { on := 8, ground := Go.Ground.phase }, { on := 9, ground := Go.Ground.phase }, { on := 10, ground := Go.Ground.phase }, { on := 11, ground := Go.Ground.phase }, { on := 12, ground := Go.Ground.phase }, { on := 13, ground := Go.Ground.phase }], guard := none }) (v := ?vr914) rfl (by kernel_rfl) (by kernel_rfl) (by kernel_rfl) (fun _ _ _ h => h) (Or.inl ⟨by rfl, ?hr914⟩) hHeld ?rr914
        case hr914 =>
          intro wS hSw
          (try dsimp only at hSw)
          go_simp
          try with_reducible rfl
        case rr914 =>
        simp only [Act.put, List.setIfInBounds_toArray, List.set_cons_zero, List.set_cons_succ]
        refine wpAnyH_done (by kernel_rfl) ?_ _
        refine NoPanic.normal ?_
        have hE : Ext (fun c => c = w.heap.size) w8 (((((w8.setCell ⟨w.heap.size, 0, none⟩ (.int .i64 1)).setCell ⟨w.heap.size, 1, none⟩ (.int .i64 n1)).setCell ⟨w.heap.size, 2, none⟩ (.slice ax 3 cx)).setCell ⟨w.heap.size, 3, none⟩ (.int .i64 n2)).setCell ⟨w.heap.size, 4, none⟩ (.int .i64 n3)) := ((((((Ext.refl (fun c => c = w.heap.size) _).setCell ⟨w.heap.size, 0, none⟩ _ rfl).setCell ⟨w.heap.size, 1, none⟩ _ rfl).setCell ⟨w.heap.size, 2, none⟩ _ rfl).setCell ⟨w.heap.size, 3, none⟩ _ rfl).setCell ⟨w.heap.size, 4, none⟩ _ rfl)
        have hRZ := (((((hRT8.set 0 (.int .i64 1)).set 1 (.int .i64 n1)).set 2 (.slice ax 3 cx)).set 3 (.int .i64 n2)).set 4 (.int .i64 n3))
        have z0 : (((((w8.setCell ⟨w.heap.size, 0, none⟩ (.int .i64 1)).setCell ⟨w.heap.size, 1, none⟩ (.int .i64 n1)).setCell ⟨w.heap.size, 2, none⟩ (.slice ax 3 cx)).setCell ⟨w.heap.size, 3, none⟩ (.int .i64 n2)).setCell ⟨w.heap.size, 4, none⟩ (.int .i64 n3)).cell? ⟨w.heap.size, 0, none⟩ = some (.int .i64 1) := hRZ.at 0 _ rfl
        have z1 : (((((w8.setCell ⟨w.heap.size, 0, none⟩ (.int .i64 1)).setCell ⟨w.heap.size, 1, none⟩ (.int .i64 n1)).setCell ⟨w.heap.size, 2, none⟩ (.slice ax 3 cx)).setCell ⟨w.heap.size, 3, none⟩ (.int .i64 n2)).setCell ⟨w.heap.size, 4, none⟩ (.int .i64 n3)).cell? ⟨w.heap.size, 1, none⟩ = some (.int .i64 n1) := hRZ.at 1 _ rfl
        have z2 : (((((w8.setCell ⟨w.heap.size, 0, none⟩ (.int .i64 1)).setCell ⟨w.heap.size, 1, none⟩ (.int .i64 n1)).setCell ⟨w.heap.size, 2, none⟩ (.slice ax 3 cx)).setCell ⟨w.heap.size, 3, none⟩ (.int .i64 n2)).setCell ⟨w.heap.size, 4, none⟩ (.int .i64 n3)).cell? ⟨w.heap.size, 2, none⟩ = some (.slice ax 3 cx) := hRZ.at 2 _ rfl
        have z3 : (((((w8.setCell ⟨w.heap.size, 0, none⟩ (.int .i64 1)).setCell ⟨w.heap.size, 1, none⟩ (.int .i64 n1)).setCell ⟨w.heap.size, 2, none⟩ (.slice ax 3 cx)).setCell ⟨w.heap.size, 3, none⟩ (.int .i64 n2)).setCell ⟨w.heap.size, 4, none⟩ (.int .i64 n3)).cell? ⟨w.heap.size, 3, none⟩ = some (.int .i64 n2) := hRZ.at 3 _ rfl
        have z4 : (((((w8.setCell ⟨w.heap.size, 0, none⟩ (.int .i64 1)).setCell ⟨w.heap.size, 1, none⟩ (.int .i64 n1)).setCell ⟨w.heap.size, 2, none⟩ (.slice ax 3 cx)).setCell ⟨w.heap.size, 3, none⟩ (.int .i64 n2)).setCell ⟨w.heap.size, 4, none⟩ (.int .i64 n3)).cell? ⟨w.heap.size, 4, none⟩ = some (.int .i64 n3) := hRZ.at 4 _ rfl
        have HBZ : Hid (Below w.heap.size w (((((w8.setCell ⟨w.heap.size, 0, none⟩ (.int .i64 1)).setCell ⟨w.heap.size, 1, none⟩ (.int .i64 n1)).setCell ⟨w.heap.size, 2, none⟩ (.slice ax 3 cx)).setCell ⟨w.heap.size, 3, none⟩ (.int .i64 n2)).setCell ⟨w.heap.size, 4, none⟩ (.int .i64 n3))) := (unhide HBT8).trans (hE.below (by have := (unhide HBT8).size; omega) (fun k hk e => by omega))
        have HOZ : Hid ((Lay.sl Lay.int).OwnIn (((((w8.setCell ⟨w.heap.size, 0, none⟩ (.int .i64 1)).setCell ⟨w.heap.size, 1, none⟩ (.int .i64 n1)).setCell ⟨w.heap.size, 2, none⟩ (.slice ax 3 cx)).setCell ⟨w.heap.size, 3, none⟩ (.int .i64 n2)).setCell ⟨w.heap.size, 4, none⟩ (.int .i64 n3)) [.slice ax 3 cx] [p, q, r] w.heap.size (((((w8.setCell ⟨w.heap.size, 0, none⟩ (.int .i64 1)).setCell ⟨w.heap.size, 1, none⟩ (.int .i64 n1)).setCell ⟨w.heap.size, 2, none⟩ (.slice ax 3 cx)).setCell ⟨w.heap.size, 3, none⟩ (.int .i64 n2)).setCell ⟨w.heap.size, 4, none⟩ (.int .i64 n3)).heap.size) := (hVD8.ext hE (fun c h1 _ h3 => by omega)).mono (by omega) (by simp; exact hb8.size)
        clear hHeld hE hRZ hRT8 hVD8 hVD hRT
        generalize (((((w8.setCell ⟨w.heap.size, 0, none⟩ (.int .i64 1)).setCell ⟨w.heap.size, 1, none⟩ (.int .i64 n1)).setCell ⟨w.heap.size, 2, none⟩ (.slice ax 3 cx)).setCell ⟨w.heap.size, 3, none⟩ (.int .i64 n2)).setCell ⟨w.heap.size, 4, none⟩ (.int .i64 n3)) = wZ at *
        go_wp2_with fail
        refine bodyPost_ret (v := .tuple #[.agg #[.int .i64 1, .int .i64 n1, .slice ax 3 cx, .int .i64 n2, .int .i64 n3], .bool (writeFault 1 n1 [p, q, r] n2 n3 == 0)]) (by simp [results, Tryz.results23, go_sem, z0, z1, z2, z3, z4]) rfl ?_
        refine ⟨_, _, _, _, _, _, _, (writeFault 1 n1 [p, q, r] n2 n3 == 0), rfl, fun h => ?_, fun h => ?_, unhide HBZ⟩
        · have hz : writeFault 1 n1 [p, q, r] n2 n3 = 0 := by simpa using h
          obtain ⟨w1_, w2_, w3_, -⟩ := writeFault_zero hz
          obtain ⟨bl, O, i⟩ := unhide HOZ
          exact ⟨⟨1, n1, [p, q, r], n2, n3⟩, by rw [unhide HL]; simp [hz], ⟨bl, mkOwn_Write (x := ⟨1, n1, [p, q, r], n2, n3⟩) O (show (Lit.int .i64 1).wf = true by decide) (wf_of_bd (z := n1) (by omega)) (wf_of_bd (z := n2) (by omega)) (wf_of_bd (z := n3) (by omega)) O.2.1, i⟩⟩
        · rw [unhide HL]; simp only [Bool.true_and, h]; rfl

end Go.Proofs.YtjofcmdlcoganaaGreatDoor

namespace Go.Proofs.YtjofcmdlcoganaaGreatDoor
open Go.RowKit

theorem index_blank : ∀ l : List UInt8, (Lib.index l [32] = -1 ∧ l.count 32 = 0) ∨ ∃ i : Nat, Lib.index l [32] = i ∧ i < l.length ∧ l.count 32 = (l.drop (i + 1)).count 32 + 1
  | [] => Or.inl ⟨rfl, rfl⟩
  | c :: r => by
    by_cases h : c = 32
    · subst h
      exact Or.inr ⟨0, by simp [Lib.index], by simp, by simp⟩
    · have hp : ([32] : List UInt8).isPrefixOf (c :: r) = false := by
        simp [List.isPrefixOf]
        exact fun e => h e.symm
      rcases index_blank r with ⟨h1, h2⟩ | ⟨i, h1, h2, h3⟩
      · exact Or.inl ⟨by simp [Lib.index, hp, h1], by simp [h2, h]⟩
      · refine Or.inr ⟨i + 1, ?_, by simp; omega, ?_⟩
        · have : ¬ (Lib.index r [32] == -1) = true := fun e => by have := beq_iff_eq.1 e; omega
          simp only [Lib.index, hp]
          rw [if_neg (by simp), if_neg this, h1]
          simp
        · rw [List.count_cons_of_ne h]
          simpa using h3
theorem cutS_index : ∀ (l acc : List UInt8), cutS acc l = if Lib.index l [32] = -1 then [acc ++ l] else (acc ++ l.take (Lib.index l [32]).toNat) :: cutS [] (l.drop ((Lib.index l [32]).toNat + 1))
  | [], acc => by simp [cutS, Lib.index]
  | c :: r, acc => by
    by_cases h : c = 32
    · subst h
      have : Lib.index ((32 : UInt8) :: r) [32] = 0 := by simp [Lib.index]
      rw [this, if_neg (by decide), cutS, if_pos (by decide)]
      simp
    · have hn : ¬ c.toNat = 32 := fun e => h (by apply UInt8.toNat_inj.1; simpa using e)
      have hp : ([32] : List UInt8).isPrefixOf (c :: r) = false := by
        simp [List.isPrefixOf]
        exact fun e => h e.symm
      rw [cutS, if_neg hn, cutS_index r (acc ++ [c])]
      by_cases h1 : Lib.index r [32] = -1
      · have : Lib.index (c :: r) [32] = -1 := by simp [Lib.index, hp, h1]
        rw [if_pos h1, if_pos this]
        simp
      · have hge := Lib.index_ge r [32]
        have : Lib.index (c :: r) [32] = Lib.index r [32] + 1 := by
          have hb : ¬ (Lib.index r [32] == -1) = true := fun e => h1 (beq_iff_eq.1 e)
          simp only [Lib.index, hp]
          rw [if_neg (by simp), if_neg hb]
        rw [if_neg h1, if_neg (by omega), this]
        obtain ⟨i, hi⟩ := Int.eq_ofNat_of_zero_le (show 0 ≤ Lib.index r [32] by omega)
        rw [hi]
        simp
theorem splitK_blank : ∀ (k : Nat) (l : List UInt8), l.count 32 ≤ k → Lib.splitK [32] 0 k l = cutS [] l
  | 0, l, h => by
    rcases index_blank l with ⟨h1, -⟩ | ⟨i, -, -, h3⟩
    · rw [cutS_index, if_pos h1]; rfl
    · omega
  | k + 1, l, h => by
    rw [cutS_index, Lib.splitK]
    rcases index_blank l with ⟨h1, -⟩ | ⟨i, h1, h2, h3⟩
    · rw [if_pos (by rw [h1]; rfl), if_pos h1]; rfl
    · have hb : ¬ (Lib.index l [32] == -1) = true := fun e => by have := beq_iff_eq.1 e; omega
      rw [if_neg hb, if_neg (by omega), h1]
      have := splitK_blank k (l.drop (i + 1)) (by omega)
      simp only [Int.toNat_natCast, Nat.add_zero, List.nil_append, List.length_singleton]
      rw [this]
theorem split_words (s : ByteArray) : (Lib.splitB ⟨#[32]⟩ 0 (Lib.countB s ⟨#[32]⟩) s).map (·.data.toList) = cutS [] s.data.toList := by
  rw [Lib.splitB_data]
  refine splitK_blank _ _ ?_
  show _ ≤ Lib.count s.data.toList [32]
  rw [Lib.count_one]
  exact Nat.le_refl _

end Go.Proofs.YtjofcmdlcoganaaGreatDoor

namespace Go.Proofs
open Go.Shelf
def Tryz.lays156_ren : Go.Shelf.Ren := ⟨fun | 156 => 27 | 165 => 54 | 166 => 55 | 169 => 56 | 240 => 74 | 241 => 75 | 276 => 86 | 277 => 87 | n => n, fun | 31 => 57 | 9 => 9 | 3 => 3 | 4 => 4 | 0 => 0 | 20 => 20 | 72 => 96 | 76 => 100 | 70 => 94 | 37 => 22 | 75 => 99 | 127 => 111 | 164 => 122 | 5 => 5 | 80 => 90 | n => n, fun | n => n⟩
theorem Tryz.lays156 : Go.Proofs.Lays.n156 Tryz.prog Tryz.lays156_ren := {
  mixed := by kernel_rfl
  f156 := Tryz.func27.trans (congrArg some (by kernel_rfl))
  f165 := Tryz.func54.trans (congrArg some (by kernel_rfl))
  f166 := Tryz.func55.trans (congrArg some (by kernel_rfl))
  f169 := Tryz.func56.trans (congrArg some (by kernel_rfl))
  f240 := Tryz.func74.trans (congrArg some (by kernel_rfl))
  f241 := Tryz.func75.trans (congrArg some (by kernel_rfl))
  f276 := Tryz.func86.trans (congrArg some (by kernel_rfl))
  f277 := Tryz.func87.trans (congrArg some (by kernel_rfl))
  t0 := Tryz.underlying0
  a0 := Tryz.isAgg0
  z0 := Tryz.sizeOf0
  v0 := Tryz.zeroValue0
  t3 := Tryz.underlying3
  a3 := Tryz.isAgg3
  z3 := Tryz.sizeOf3
  v3 := Tryz.zeroValue3
  t4 := Tryz.underlying4
  a4 := Tryz.isAgg4
  z4 := Tryz.sizeOf4
  v4 := Tryz.zeroValue4
  t9 := Tryz.underlying9
  a9 := Tryz.isAgg9
  z9 := Tryz.sizeOf9
  v9 := Tryz.zeroValue9
  t20 := Tryz.underlying20
  a20 := Tryz.isAgg20
  z20 := Tryz.sizeOf20
  v20 := Tryz.zeroValue20
  t31 := Tryz.underlying57
  a31 := Tryz.isAgg57
  z31 := Tryz.sizeOf57
  v31 := Tryz.zeroValue57
  t37 := Tryz.underlying22
  a37 := Tryz.isAgg22
  z37 := Tryz.sizeOf22
  v37 := Tryz.zeroValue22
  t70 := Tryz.underlying94
  a70 := Tryz.isAgg94
  z70 := Tryz.sizeOf94
  v70 := Tryz.zeroValue94
  t72 := Tryz.underlying96
  a72 := Tryz.isAgg96
  z72 := Tryz.sizeOf96
  v72 := Tryz.zeroValue96
  t75 := Tryz.underlying99
  a75 := Tryz.isAgg99
  z75 := Tryz.sizeOf99
  v75 := Tryz.zeroValue99
  t76 := Tryz.underlying100
  a76 := Tryz.isAgg100
  z76 := Tryz.sizeOf100
  v76 := Tryz.zeroValue100
  t127 := Tryz.underlying111
  a127 := Tryz.isAgg111
  z127 := Tryz.sizeOf111
  v127 := Tryz.zeroValue111
  t164 := Tryz.underlying122
  a164 := Tryz.isAgg122
  z164 := Tryz.sizeOf122
  v164 := Tryz.zeroValue122 }
theorem Tryz.Builder_Extra_156 : Builder.Extra Tryz.prog Tryz.lays156_ren := {
  sizeBuilder := by kernel_rfl
  liesBuilder := by kernel_rfl
  t5 := Tryz.underlying5
  a5 := Tryz.isAgg5
  z5 := Tryz.sizeOf5
  v5 := Tryz.zeroValue5
  infoByte := by kernel_rfl
  cellsByte := by kernel_rfl
  sizeByte := by kernel_rfl
  neB5 := by decide }
open Go.RowKit in
theorem Tryz.strings_Join (bk o c : Nat) (xs : List ByteArray) (sep : ByteArray) (w : World) (hcells : ∀ (j : Nat) x, xs[j]? = some x → w.cell? ⟨bk, o + j, none⟩ = some (.string x)) (hbk : bk < w.heap.size) (hN : xs.length ≤ 140737488355328) (hcap : xs.length ≤ c) (hlen : (Lib.join (xs.map (·.data.toList)) sep.data.toList).length ≤ 140737488355328) :
    Calls Tryz.prog 27 #[.slice (some ⟨bk, o, none⟩) xs.length c, .string sep] w fun e w' => e = .returned (.string ⟨(Lib.join (xs.map (·.data.toList)) sep.data.toList).toArray⟩) ∧ Below w.heap.size w w' := Any.strings_Join Tryz.lays156 Tryz.Builder_Extra_156 bk o c xs sep w hcells hbk hN hcap hlen
def Tryz.laysM173_ren : Go.Shelf.Ren := ⟨fun | 173 => 53 | 246 => 73 | 283 => 82 | 284 => 83 | 285 => 84 | 286 => 85 | 129 => 93 | 317 => 92 | 318 => 94 | 319 => 95 | 320 => 96 | 337 => 102 | 338 => 103 | n => n, fun | 2 => 2 | 3 => 3 | 9 => 9 | 4 => 4 | 171 => 116 | 0 => 0 | 53 => 117 | 37 => 22 | 5 => 5 | 173 => 120 | 212 => 131 | 51 => 132 | 20 => 20 | 213 => 133 | 46 => 135 | 232 => 144 | 233 => 145 | n => n, fun | 17 => 0 | 18 => 4 | 19 => 5 | n => n⟩
theorem Tryz.laysM173 : Go.Proofs.LaysM.n173 Tryz.prog Tryz.laysM173_ren := {
  mixed := by kernel_rfl
  f129 := Tryz.func93.trans (congrArg some (by kernel_rfl))
  f173 := Tryz.func53.trans (congrArg some (by kernel_rfl))
  f246 := Tryz.func73.trans (congrArg some (by kernel_rfl))
  f283 := Tryz.func82.trans (congrArg some (by kernel_rfl))
  f284 := Tryz.func83.trans (congrArg some (by kernel_rfl))
  f285 := Tryz.func84.trans (congrArg some (by kernel_rfl))
  f286 := Tryz.func85.trans (congrArg some (by kernel_rfl))
  f317 := Tryz.func92.trans (congrArg some (by kernel_rfl))
  f318 := Tryz.func94.trans (congrArg some (by kernel_rfl))
  f319 := Tryz.func95.trans (congrArg some (by kernel_rfl))
  f320 := Tryz.func96.trans (congrArg some (by kernel_rfl))
  f337 := Tryz.func102.trans (congrArg some (by kernel_rfl))
  f338 := Tryz.func103.trans (congrArg some (by kernel_rfl))
  t0 := Tryz.underlying0
  a0 := Tryz.isAgg0
  z0 := Tryz.sizeOf0
  v0 := Tryz.zeroValue0
  t2 := Tryz.underlying2
  a2 := Tryz.isAgg2
  z2 := Tryz.sizeOf2
  v2 := Tryz.zeroValue2
  t3 := Tryz.underlying3
  a3 := Tryz.isAgg3
  z3 := Tryz.sizeOf3
  v3 := Tryz.zeroValue3
  t4 := Tryz.underlying4
  a4 := Tryz.isAgg4
  z4 := Tryz.sizeOf4
  v4 := Tryz.zeroValue4
  t5 := Tryz.underlying5
  a5 := Tryz.isAgg5
  z5 := Tryz.sizeOf5
  v5 := Tryz.zeroValue5
  t9 := Tryz.underlying9
  a9 := Tryz.isAgg9
  z9 := Tryz.sizeOf9
  v9 := Tryz.zeroValue9
  t20 := Tryz.underlying20
  a20 := Tryz.isAgg20
  z20 := Tryz.sizeOf20
  v20 := Tryz.zeroValue20
  t37 := Tryz.underlying22
  a37 := Tryz.isAgg22
  z37 := Tryz.sizeOf22
  v37 := Tryz.zeroValue22
  t46 := Tryz.underlying135
  a46 := Tryz.isAgg135
  z46 := Tryz.sizeOf135
  v46 := Tryz.zeroValue135
  t51 := Tryz.underlying132
  a51 := Tryz.isAgg132
  z51 := Tryz.sizeOf132
  v51 := Tryz.zeroValue132
  t53 := Tryz.underlying117
  a53 := Tryz.isAgg117
  z53 := Tryz.sizeOf117
  v53 := Tryz.zeroValue117
  t171 := Tryz.underlying116
  a171 := Tryz.isAgg116
  z171 := Tryz.sizeOf116
  v171 := Tryz.zeroValue116
  t173 := Tryz.underlying120
  a173 := Tryz.isAgg120
  z173 := Tryz.sizeOf120
  v173 := Tryz.zeroValue120
  t212 := Tryz.underlying131
  a212 := Tryz.isAgg131
  z212 := Tryz.sizeOf131
  v212 := Tryz.zeroValue131
  t213 := Tryz.underlying133
  a213 := Tryz.isAgg133
  z213 := Tryz.sizeOf133
  t232 := Tryz.underlying144
  a232 := Tryz.isAgg144
  z232 := Tryz.sizeOf144
  v232 := Tryz.zeroValue144
  t233 := Tryz.underlying145
  a233 := Tryz.isAgg145
  z233 := Tryz.sizeOf145
  v233 := Tryz.zeroValue145
  g17 := by kernel_rfl
  g18 := by kernel_rfl
  g19 := by kernel_rfl
  i0 := by kernel_rfl
  i2 := by kernel_rfl
  i3 := by kernel_rfl
  i4 := by kernel_rfl
  i5 := by kernel_rfl
  i9 := by kernel_rfl
  i20 := by kernel_rfl
  i37 := by kernel_rfl
  i46 := by kernel_rfl
  i51 := by kernel_rfl
  i53 := by kernel_rfl
  i171 := by kernel_rfl
  i173 := by kernel_rfl
  i212 := by kernel_rfl
  i232 := by kernel_rfl
  i233 := by kernel_rfl
  m17 := by kernel_rfl
  m18 := by kernel_rfl
  m19 := by kernel_rfl }
open Go.RowKit Go.Sort Go.Lib in
theorem Tryz.strconv_FormatInt_10 (n : Int) (h0 : -9223372036854775808 ≤ n) (h1 : n ≤ 9223372036854775807) (w : World) (htab : Lib.TabIs Tryz.prog w "internal/strconv.uint64pow10" .u64 Lib.pow10Tab) :
    Calls Tryz.prog 53 #[.int .i64 n, .int .i64 10] w fun e w' => e = .returned (.string ⟨(Lib.itoa n).toArray⟩) ∧ ∃ k os, w' = grow (w.drewN k) os := Any.strconv_FormatInt_10 Tryz.laysM173 n h0 h1 w htab
def Tryz.laysM146_ren : Go.Shelf.Ren := ⟨fun | 146 => 43 | 221 => 67 | 268 => 77 | 138 => 78 | 143 => 79 | 195 => 88 | 197 => 89 | 218 => 90 | 219 => 91 | 260 => 97 | 217 => 98 | 225 => 99 | 224 => 100 | 267 => 101 | 266 => 104 | 314 => 105 | n => n, fun | 9 => 9 | 31 => 57 | 3 => 3 | 4 => 4 | 0 => 0 | 105 => 126 | 21 => 21 | 5 => 5 | 46 => 135 | 119 => 138 | 139 => 141 | 138 => 140 | 146 => 142 | 51 => 132 | n => n, fun | 1 => 1 | 3 => 2 | 4 => 3 | n => n⟩
theorem Tryz.laysM146 : Go.Proofs.LaysM.n146 Tryz.prog Tryz.laysM146_ren := {
  mixed := by kernel_rfl
  f138 := Tryz.func78.trans (congrArg some (by kernel_rfl))
  f143 := Tryz.func79.trans (congrArg some (by kernel_rfl))
  f146 := Tryz.func43.trans (congrArg some (by kernel_rfl))
  f195 := Tryz.func88.trans (congrArg some (by kernel_rfl))
  f197 := Tryz.func89.trans (congrArg some (by kernel_rfl))
  f217 := Tryz.func98.trans (congrArg some (by kernel_rfl))
  f218 := Tryz.func90.trans (congrArg some (by kernel_rfl))
  f219 := Tryz.func91.trans (congrArg some (by kernel_rfl))
  f221 := Tryz.func67.trans (congrArg some (by kernel_rfl))
  f224 := Tryz.func100.trans (congrArg some (by kernel_rfl))
  f225 := Tryz.func99.trans (congrArg some (by kernel_rfl))
  f260 := Tryz.func97.trans (congrArg some (by kernel_rfl))
  f266 := Tryz.func104.trans (congrArg some (by kernel_rfl))
  f267 := Tryz.func101.trans (congrArg some (by kernel_rfl))
  f268 := Tryz.func77.trans (congrArg some (by kernel_rfl))
  f314 := Tryz.func105.trans (congrArg some (by kernel_rfl))
  t0 := Tryz.underlying0
  a0 := Tryz.isAgg0
  z0 := Tryz.sizeOf0
  v0 := Tryz.zeroValue0
  t3 := Tryz.underlying3
  a3 := Tryz.isAgg3
  z3 := Tryz.sizeOf3
  v3 := Tryz.zeroValue3
  t4 := Tryz.underlying4
  a4 := Tryz.isAgg4
  z4 := Tryz.sizeOf4
  v4 := Tryz.zeroValue4
  t5 := Tryz.underlying5
  a5 := Tryz.isAgg5
  z5 := Tryz.sizeOf5
  v5 := Tryz.zeroValue5
  t9 := Tryz.underlying9
  a9 := Tryz.isAgg9
  z9 := Tryz.sizeOf9
  v9 := Tryz.zeroValue9
  t21 := Tryz.underlying21
  a21 := Tryz.isAgg21
  z21 := Tryz.sizeOf21
  v21 := Tryz.zeroValue21
  t31 := Tryz.underlying57
  a31 := Tryz.isAgg57
  z31 := Tryz.sizeOf57
  v31 := Tryz.zeroValue57
  t46 := Tryz.underlying135
  a46 := Tryz.isAgg135
  z46 := Tryz.sizeOf135
  v46 := Tryz.zeroValue135
  t51 := Tryz.underlying132
  a51 := Tryz.isAgg132
  z51 := Tryz.sizeOf132
  v51 := Tryz.zeroValue132
  t105 := Tryz.underlying126
  a105 := Tryz.isAgg126
  z105 := Tryz.sizeOf126
  v105 := Tryz.zeroValue126
  t119 := Tryz.underlying138
  a119 := Tryz.isAgg138
  z119 := Tryz.sizeOf138
  t138 := Tryz.underlying140
  a138 := Tryz.isAgg140
  z138 := Tryz.sizeOf140
  v138 := Tryz.zeroValue140
  t139 := Tryz.underlying141
  a139 := Tryz.isAgg141
  z139 := Tryz.sizeOf141
  v139 := Tryz.zeroValue141
  t146 := Tryz.underlying142
  a146 := Tryz.isAgg142
  z146 := Tryz.sizeOf142
  v146 := Tryz.zeroValue142
  g1 := by kernel_rfl
  g3 := by kernel_rfl
  g4 := by kernel_rfl
  i0 := by kernel_rfl
  i3 := by kernel_rfl
  i4 := by kernel_rfl
  i5 := by kernel_rfl
  i9 := by kernel_rfl
  i21 := by kernel_rfl
  i31 := by kernel_rfl
  i46 := by kernel_rfl
  i51 := by kernel_rfl
  i105 := by kernel_rfl
  i138 := by kernel_rfl
  i139 := by kernel_rfl
  i146 := by kernel_rfl
  m1 := by kernel_rfl
  s1_3 := fun w h => Go.Proofs.cell_of_shapedOpen_int (zero := #[.int .i64 0]) (t := 3) h (of_decide_eq_true (by kernel_rfl)) (by kernel_rfl) rfl (by kernel_rfl) (by kernel_rfl) Tryz.underlying3
  m3 := by kernel_rfl
  m4 := by kernel_rfl }
open Go.RowKit Go.Lib in
theorem Tryz.strings_Split_shaped (s sep : ByteArray) (w : World) (h : w.ShapedOpen Tryz.prog) (hs : s.size < 4294967281) (h1 : 1 ≤ sep.size) :
    Calls Tryz.prog 43 #[.string s, .string sep] w fun e w' =>
      e = .returned (.slice (some ⟨w.heap.size, 0, none⟩) (Lib.countB s sep + 1) (Lib.countB s sep + 1)) ∧ w' = w.alloc (.cells ((Lib.splitB sep 0 (Lib.countB s sep) s).map Value.string).toArray 9) := Any.strings_Split_shaped Tryz.laysM146 s sep w h hs h1
end Go.Proofs

namespace Go.Proofs.YtjofcmdlcoganaaGreatDoor
open Go.RowKit

def Shp (w : World) : Prop := w.ShapedOpen Tryz.prog
theorem Shp.later {W W' : World} (h : Shp W) (hb : Below W.heap.size W W') : Shp W' := World.ShapedOpen.keptBut h (hb.frame (fun _ => False)) (fun _ hp => hp.elim)

theorem readI_other {l : List Bytes} (h5 : l.length ≠ 5) (h6 : l.length ≠ 6) : readI l = none := by
  unfold readI
  split
  · exact absurd rfl h6
  · exact absurd rfl h5
  · rfl
theorem readI_five {c0 c1 c2 c3 c4 : Bytes} (h : ¬ (c0 = [100, 114, 111, 112] ∧ c2 = [98, 121])) : readI [c0, c1, c2, c3, c4] = none := if_neg h
theorem readI_six {c0 c1 c2 c3 c4 c5 : Bytes} (h : ¬ (c0 = [112, 117, 116] ∧ c3 = [98, 121])) : readI [c0, c1, c2, c3, c4, c5] = none := if_neg h
theorem readI_drop' (c0 c1 c2 c3 c4 : Bytes) : readI [c0, c1, c2, c3, c4] = if c0 = [100, 114, 111, 112] ∧ c2 = [98, 121] then (if tailI 2 [] c1 c3 c4 = true then some (tailX 2 [] c1 c3 c4) else none) else none := rfl
theorem readI_put' (c0 c1 c2 c3 c4 c5 : Bytes) : readI [c0, c1, c2, c3, c4, c5] = if c0 = [112, 117, 116] ∧ c3 = [98, 121] then (match PP 3 (0, 0, 0) c2 with | none => none | some t => if tailI 1 [t.1, t.2.1, t.2.2] c1 c4 c5 = true then some (tailX 1 [t.1, t.2.1, t.2.2] c1 c4 c5) else none) else none := rfl
theorem readI_drop {c1 c3 c4 : Bytes} : readI [[100, 114, 111, 112], c1, [98, 121], c3, c4] = if tailI 2 [] c1 c3 c4 = true then some (tailX 2 [] c1 c3 c4) else none := (readI_drop' _ _ _ _ _).trans (if_pos ⟨rfl, rfl⟩)
theorem readI_put {c1 c2 c4 c5 : Bytes} : readI [[112, 117, 116], c1, c2, [98, 121], c4, c5] = (match PP 3 (0, 0, 0) c2 with | none => none | some t => if tailI 1 [t.1, t.2.1, t.2.2] c1 c4 c5 = true then some (tailX 1 [t.1, t.2.1, t.2.2] c1 c4 c5) else none) := (readI_put' _ _ _ _ _ _).trans (if_pos ⟨rfl, rfl⟩)
theorem five {bs : List ByteArray} (h : bs.length = 5) : ∃ a b c d e, bs = [a, b, c, d, e] := by
  match bs, h with
  | [a, b, c, d, e], _ => exact ⟨a, b, c, d, e, rfl⟩
theorem six {bs : List ByteArray} (h : bs.length = 6) : ∃ a b c d e f, bs = [a, b, c, d, e, f] := by
  match bs, h with
  | [a, b, c, d, e, f], _ => exact ⟨a, b, c, d, e, f, rfl⟩

def ToldRW (l : List Bytes) (w : World) (e : Ending) (w' : World) : Prop := ∃ (k i : Int) (a : Option Addr) (n c : Nat) (ss q : Int) (ok : Bool), e = .returned (.tuple #[.agg #[.int .i64 k, .int .i64 i, .slice a n c, .int .i64 ss, .int .i64 q], .bool ok]) ∧ (ok = true → ∃ x, readI l = some x ∧ Lay.tWrite.OwnIn w' [.int .i64 k, .int .i64 i, .slice a n c, .int .i64 ss, .int .i64 q] x w.heap.size w'.heap.size) ∧ (ok = false → readI l = none) ∧ Below w.heap.size w w'

theorem readW_bs (s : ByteArray) (bs : List ByteArray) (w : World)
    (hsp : ∀ W : World, W = w.alloc (.cells #[.int .i64 0, .int .i64 0, .slice none 0 0, .int .i64 0, .int .i64 0] 27) → Calls Tryz.prog 43 #[.string s, .string ⟨#[32]⟩] W fun e w' => e = .returned (.slice (some ⟨W.heap.size, 0, none⟩) bs.length bs.length) ∧ w' = W.alloc (.cells (bs.map Value.string).toArray 9))
    (hz : ∀ b ∈ bs, b.size ≤ 1048576) (hn : bs.length ≤ 1048577) :
    Calls Tryz.prog 23 #[.string s] w (ToldRW (bs.map (·.data.toList)) w) := by
  by_cases h3 : bs.length < 3
  · rcases bs with _ | ⟨b0, _ | ⟨b1, _ | ⟨b2, bs⟩⟩⟩
    · exact readW_0 s _ w hsp rfl
    · exact readW_1 s b0 _ w hsp rfl
    · exact readW_2 s b0 b1 _ w hsp rfl
    · simp only [List.length_cons] at h3
      omega
  obtain ⟨m, hm⟩ : ∃ m, bs.length = m + 3 := ⟨bs.length - 3, by omega⟩
  rw [hm] at hsp
  obtain ⟨t, ht⟩ : ∃ t, bs[m]? = some t := ⟨bs[m]'(by omega), List.getElem?_eq_getElem _⟩
  by_cases hb : t.data.toList = [98, 121]
  · obtain rfl : t = ⟨#[98, 121]⟩ := ba_eq hb
    by_cases h5 : m = 2
    · subst h5
      obtain ⟨d, a, t2, b, c, rfl⟩ := five hm
      obtain rfl : t2 = ⟨#[98, 121]⟩ := Option.some.inj ht
      by_cases hd : d.data.toList = [100, 114, 111, 112]
      · obtain rfl : d = ⟨#[100, 114, 111, 112]⟩ := ba_eq hd
        exact readW_drop s _ a b c _ w hsp (hz _ (by simp)) (hz _ (by simp)) (hz _ (by simp)) readI_drop (fun W hB => readDeed_drop _ _ W (hB.at 0 _ rfl))
      · exact readW_dno s _ 2 _ w hsp (readI_five fun h => hd h.1) (by omega) ht (fun W hB => (readDeed_ndrop _ _ d W (hB.at 0 _ rfl) (by rw [toList_data]; simpa using hd)).mono (fun e w' h => ⟨_, h.1, h.2⟩))
    · by_cases h6 : m = 3
      · subst h6
        obtain ⟨d, a, v, t2, b, c, rfl⟩ := six hm
        obtain rfl : t2 = ⟨#[98, 121]⟩ := Option.some.inj ht
        by_cases hd : d.data.toList = [112, 117, 116]
        · obtain rfl : d = ⟨#[112, 117, 116]⟩ := ba_eq hd
          cases hP : PP 3 (0, 0, 0) v.data.toList with
          | none =>
            refine readW_dno s _ 3 _ w hsp (readI_put.trans (by rw [hP])) (by omega) ht (fun W hB => (readDeed_put _ _ v W (hB.at 0 _ rfl) (hB.at 2 _ rfl) (hz _ (by simp))).mono (fun e w' h => ⟨putV 0 0 0, ?_, h.2⟩))
            rw [h.1, show rest v 0 = v.data.toList from rfl, hP]
            rfl
          | some T =>
            obtain ⟨p, q, r⟩ := T
            obtain ⟨-, b1, b2, b3⟩ := PP_some hP
            refine readW_put s _ a v b c p q r _ w hsp ?_ (hz _ (by simp)) (hz _ (by simp)) (hz _ (by simp)) (readI_put.trans (by rw [hP])) (fun W hB => (readDeed_put _ _ v W (hB.at 0 _ rfl) (hB.at 2 _ rfl) (hz _ (by simp))).mono (fun e w' h => ⟨?_, h.2⟩))
            · intro z hz
              simp only [List.mem_cons, List.not_mem_nil, or_false] at hz
              rcases hz with rfl | rfl | rfl
              · exact wf_of_bd (by omega)
              · exact wf_of_bd (by omega)
              · exact wf_of_bd (by omega)
            · rw [h.1, show rest v 0 = v.data.toList from rfl, hP]
              rfl
        · exact readW_dno s _ 3 _ w hsp (readI_six fun h => hd h.1) (by omega) ht (fun W hB => (readDeed_nput _ _ d W (hB.at 0 _ rfl) (by rw [toList_data]; simpa using hd)).mono (fun e w' h => ⟨_, h.1, h.2⟩))
      · exact readW_dno s bs m _ w hsp (readI_other (by rw [List.length_map]; omega) (by rw [List.length_map]; omega)) (by omega) ht (fun W hB => (readDeed_no _ _ _ W (by simp only [beq_eq_false_iff_ne]; omega) (by simp only [beq_eq_false_iff_ne]; omega)).mono (fun e w' h => ⟨_, h.1, h.2⟩))
  · refine readW_nby s bs m t _ w hsp ?_ (by omega) ht hb
    by_cases h5 : m = 2
    · subst h5
      obtain ⟨d, a, t2, b, c, rfl⟩ := five hm
      obtain rfl : t2 = t := Option.some.inj ht
      exact readI_five fun h => hb h.2
    · by_cases h6 : m = 3
      · subst h6
        obtain ⟨d, a, v, t2, b, c, rfl⟩ := six hm
        obtain rfl : t2 = t := Option.some.inj ht
        exact readI_six fun h => hb h.2
      · exact readI_other (by rw [List.length_map]; omega) (by rw [List.length_map]; omega)

theorem cutS_le : ∀ (l acc c : Bytes), c ∈ cutS acc l → c.length ≤ acc.length + l.length
  | [], acc, c, h => by
    simp only [cutS, List.mem_singleton] at h
    subst h
    simp
  | d :: r, acc, c, h => by
    rw [cutS] at h
    split at h
    · rcases List.mem_cons.1 h with rfl | h
      · simp
      · have := cutS_le r [] c h
        simp only [List.length_nil, List.length_cons] at *
        omega
    · have := cutS_le r _ c h
      simp only [List.length_append, List.length_cons, List.length_nil] at *
      omega
theorem cutS_few : ∀ (l acc : Bytes), (cutS acc l).length ≤ l.length + 1
  | [], acc => by simp [cutS]
  | d :: r, acc => by
    rw [cutS]
    split
    · have := cutS_few r []
      simp only [List.length_cons]
      omega
    · have := cutS_few r (acc ++ [d])
      simp only [List.length_cons]
      omega

/-- readWrite of the program. -/
theorem readWriteC (s : ByteArray) (w : World) (hs : s.size ≤ 1048576) (hsh : Shp w) :
    Calls Tryz.prog 23 #[.string s] w (ToldRW (cutS [] s.data.toList) w) := by
  have hw := split_words s
  have hlen := Lib.splitB_all ⟨#[32]⟩ (by decide) 0 (Lib.countB s ⟨#[32]⟩) s rfl
  have hsp : ∀ W : World, W = w.alloc (.cells #[.int .i64 0, .int .i64 0, .slice none 0 0, .int .i64 0, .int .i64 0] 27) → Calls Tryz.prog 43 #[.string s, .string ⟨#[32]⟩] W fun e w' => e = .returned (.slice (some ⟨W.heap.size, 0, none⟩) (Lib.splitB ⟨#[32]⟩ 0 (Lib.countB s ⟨#[32]⟩) s).length (Lib.splitB ⟨#[32]⟩ 0 (Lib.countB s ⟨#[32]⟩) s).length) ∧ w' = W.alloc (.cells ((Lib.splitB ⟨#[32]⟩ 0 (Lib.countB s ⟨#[32]⟩) s).map Value.string).toArray 9) := by
    rintro W rfl
    rw [hlen]
    exact Tryz.strings_Split_shaped s ⟨#[32]⟩ _ (hsh.later ((Below.refl _ _).alloc (Nat.le_refl _) _)) (by omega) (by decide)
  clear hlen
  generalize Lib.splitB ⟨#[32]⟩ 0 (Lib.countB s ⟨#[32]⟩) s = bs at *
  have hsz : s.data.toList.length = s.size := by simp
  rw [← hw]
  refine readW_bs s bs w hsp (fun b hb => ?_) ?_
  · have := cutS_le s.data.toList [] b.data.toList (hw ▸ List.mem_map_of_mem hb)
    have h2 : b.data.toList.length = b.size := by simp
    simp only [List.length_nil] at this
    omega
  · have := cutS_few s.data.toList []
    rw [← hw, List.length_map] at this
    omega

end Go.Proofs.YtjofcmdlcoganaaGreatDoor

namespace Go.Proofs.YtjofcmdlcoganaaGreatDoor
open Go.RowKit

theorem vcnt_WriteResult (x : DWriteResult) : Lay.tWriteResult.vcnt x = Lay.tWrite.vcnt x.write := by
  show 0 + (Lay.tWrite.vcnt x.write) = Lay.tWrite.vcnt x.write
  omega
theorem mkv_WriteResult (k : Int) (x : DWriteResult) : Lay.tWriteResult.mkv k x = ⟨x.code, Lay.tWrite.mkv (k) x.write⟩ := by
  simp [Lay.tWriteResult, Lay.via, Lay.pair, Lay.int]
theorem own_WriteResult {w : World} {cs : List Value} {x : DWriteResult} {bl : List Nat} (h : Lay.tWriteResult.Own w cs x bl) : ∃ (a3 : Option Addr) (d3 : Nat) (g1 : List Nat), cs = [.int .i64 x.code, .int .i64 x.write.kind, .int .i64 x.write.id, .slice a3 x.write.vec.length d3, .int .i64 x.write.session, .int .i64 x.write.seq] ∧ bl = g1 ∧ Lay.tWrite.Own w [.int .i64 x.write.kind, .int .i64 x.write.id, .slice a3 x.write.vec.length d3, .int .i64 x.write.session, .int .i64 x.write.seq] x.write g1 ∧ (Lit.int .i64 x.code).wf = true := by
  obtain ⟨hl, hn, hf⟩ := h
  obtain ⟨a3, d3, b3, rfl, hbl, w0, w1, w2, l3, w4, w5⟩ := lies_WriteResult.1 hl
  rw [hbl] at hn hf
  exact ⟨a3, d3, b3, rfl, hbl, ⟨lies_Write.2 ⟨a3, d3, b3, rfl, rfl, w1, w2, l3, w4, w5⟩, hn, hf⟩, w0⟩
theorem mkOwn_WriteResult {w : World} {x : DWriteResult} {c1 : List Value} {g1 : List Nat} (O1 : Lay.tWrite.Own w c1 x.write g1) (v0 : (Lit.int .i64 x.code).wf = true) (hn : (g1).Nodup) : Lay.tWriteResult.Own w ([.int .i64 x.code] ++ c1) x (g1) := by
  refine ⟨⟨[.int .i64 x.code], c1, [], g1, rfl, by simp, ⟨rfl, v0, rfl⟩, O1.1⟩, hn, ?_⟩
  intro b hb o
  exact O1.2.2 b hb o

end Go.Proofs.YtjofcmdlcoganaaGreatDoor

namespace Go.Proofs.YtjofcmdlcoganaaGreatDoor
open Go.RowKit

def ToldPW (w w' : World) (e : Ending) (y : DWriteResult) : Prop := ∃ cs, e = .returned (.agg cs.toArray) ∧ Lay.tWriteResult.OwnIn w' cs y w.heap.size w'.heap.size ∧ Below w.heap.size w w'
theorem toldPW_store {w w4 : World} {cs vs : List Value} {y : DWriteResult} {hi : Nat} (h : Lay.tWriteResult.OwnIn w4 cs y (w.heap.size + 1) hi) (hhi : hi ≤ w4.heap.size) (hb : Below w.heap.size w w4) : ToldPW w (setAll w4 w.heap.size 0 vs) (.returned (.agg cs.toArray)) y := by
  refine ⟨cs, rfl, ?_, below_setAll hb _ _ _ (Nat.le_refl _)⟩
  rw [size_setAll]
  exact (h.ext (ext_setAll (fun q => q = w.heap.size) (Ext.refl _ _) _ _ _ rfl) (fun q h1 h2 h3 => by omega)).mono (by omega) hhi

def resI : Option DWrite → DWriteResult
  | none => ⟨5, zeroW⟩
  | some x => ⟨0, x⟩
theorem parseM_I (l : Bytes) : parseM l = resI (readI (cutS [] l)) := by
  rw [parseM_eq, readI_eq]
  cases readM (cutS [] l) <;> rfl

set_option maxRecDepth 10000 in
set_option maxHeartbeats 1000000 in
/-- ParseWrite of the program. -/
theorem implPW (s : ByteArray) (w : World) (hs : s.size ≤ 1048576) (hsh : Shp w) :
    Calls Tryz.prog 6 #[.string s] w fun e w' => ToldPW w w' e (parseM s.data.toList) := by
  have nb : Below w.heap.size w (w.alloc (.cells #[.int .i64 0, .int .i64 0, .int .i64 0, .slice none 0 0, .int .i64 0, .int .i64 0] 29)) := (Below.refl _ _).alloc (Nat.le_refl _) _
  have bR : Box 0 #[.int .i64 0, .int .i64 0, .int .i64 0, .slice none 0 0, .int .i64 0, .int .i64 0] 29 (w.alloc (.cells #[.int .i64 0, .int .i64 0, .int .i64 0, .slice none 0 0, .int .i64 0, .int .i64 0] 29)) w.heap.size := newBox (Nat.zero_le _)
  have hs0 : (w.alloc (.cells #[.int .i64 0, .int .i64 0, .int .i64 0, .slice none 0 0, .int .i64 0, .int .i64 0] 29)).heap.size = w.heap.size + 1 := by simp
  have LC := hide (readWriteC s _ hs (hsh.later nb))
  rw [parseM_I]
  go_enter Tryz.func6, Tryz.ntmps6
  go_wp2_with fail
  generalize w.alloc (.cells #[.int .i64 0, .int .i64 0, .int .i64 0, .slice none 0 0, .int .i64 0, .int .i64 0] 29) = W0 at *
  refine (unhide LC).mono ?_
  rintro e w1 ⟨k, i, a, n, c, ss, q, ok, rfl, hyes, hno, hb⟩
  have nb2 : Below w1.heap.size w1 (w1.alloc (.cells #[.int .i64 k, .int .i64 i, .slice a n c, .int .i64 ss, .int .i64 q] 27)) := (Below.refl _ _).alloc (Nat.le_refl _) _
  have bX : Box 0 #[.int .i64 k, .int .i64 i, .slice a n c, .int .i64 ss, .int .i64 q] 27 (w1.alloc (.cells #[.int .i64 k, .int .i64 i, .slice a n c, .int .i64 ss, .int .i64 q] 27)) w1.heap.size := newBox (Nat.zero_le _)
  have bR2 := (bR.keep hb).keep nb2
  have HB := hide ((nb.trans (hb.mono nb.size)).trans (nb2.mono (Nat.le_trans nb.size hb.size)))
  have HY : Hid (ok = true → ∃ x, readI (cutS [] s.data.toList) = some x ∧ Lay.tWrite.OwnIn (w1.alloc (.cells #[.int .i64 k, .int .i64 i, .slice a n c, .int .i64 ss, .int .i64 q] 27)) [.int .i64 k, .int .i64 i, .slice a n c, .int .i64 ss, .int .i64 q] x (w.heap.size + 1) (w1.alloc (.cells #[.int .i64 k, .int .i64 i, .slice a n c, .int .i64 ss, .int .i64 q] 27)).heap.size) := by
    intro h
    obtain ⟨x, h1, h2⟩ := hyes h
    rw [hs0] at h2
    exact ⟨x, h1, (h2.later nb2).mono (Nat.le_refl _) nb2.size⟩
  have HN := hide hno
  have HBX := hide bX
  have HBR := hide bR2
  clear nb nb2 bX bR bR2 hb hyes hno LC hs0 hsh
  cases ok with
  | false =>
    have HN2 := hide (unhide HN rfl)
    clear HN
    go_upto_region 2 with fail
    generalize w1.alloc (.cells #[.int .i64 k, .int .i64 i, .slice a n c, .int .i64 ss, .int .i64 q] 27) = w2 at *
    have bR := unhide HBR
    have r0 := bR.at 0 _ rfl
    have r1 := bR.at 1 _ rfl
    have r2 := bR.at 2 _ rfl
    have r3 := bR.at 3 _ rfl
    have r4 := bR.at 4 _ rfl
    have r5 := bR.at 5 _ rfl
    have rf := bR.soft
    have hR1 := bR.lt
    clear bR HBR HBX HY
    simp only [List.getElem_toArray, List.getElem_cons_zero, List.getElem_cons_succ] at r0 r1 r2 r3 r4 r5
    go_wp2_with fail
    refine bodyPost_ret (v := .agg #[.int .i64 5, .int .i64 0, .int .i64 0, .slice none 0 0, .int .i64 0, .int .i64 0]) (by simp [results, Tryz.results6, go_sem, r0, r1, r2, r3, r4, r5]) rfl ?_
    rw [unhide HN2]
    exact ⟨[.int .i64 5, .int .i64 0, .int .i64 0, .slice none 0 0, .int .i64 0, .int .i64 0], rfl, own_badW rfl, below_setAll (unhide HB) w.heap.size 0 [.int .i64 5, .int .i64 0, .int .i64 0, .slice none 0 0, .int .i64 0, .int .i64 0] (Nat.le_refl _)⟩
  | true =>
    obtain ⟨x, hx, ho⟩ := unhide HY rfl
    have HO := hide ho
    have HX := hide hx
    clear hx ho HY HN
    go_upto_region 2 with fail
    generalize w1.alloc (.cells #[.int .i64 k, .int .i64 i, .slice a n c, .int .i64 ss, .int .i64 q] 27) = w2 at *
    have bR := unhide HBR
    have bX := unhide HBX
    have x0 := bX.at 0 _ rfl
    have x1 := bX.at 1 _ rfl
    have x2 := bX.at 2 _ rfl
    have x3 := bX.at 3 _ rfl
    have x4 := bX.at 4 _ rfl
    have r0 := bR.at 0 _ rfl
    have r1 := bR.at 1 _ rfl
    have r2 := bR.at 2 _ rfl
    have r3 := bR.at 3 _ rfl
    have r4 := bR.at 4 _ rfl
    have r5 := bR.at 5 _ rfl
    have rf := bR.soft
    have hR1 := bR.lt
    clear bR bX HBR HBX
    simp only [List.getElem_toArray, List.getElem_cons_zero, List.getElem_cons_succ] at x0 x1 x2 x3 x4 r0 r1 r2 r3 r4 r5
    go_wp2_with fail
    refine bodyPost_ret (v := .agg #[.int .i64 0, .int .i64 k, .int .i64 i, .slice a n c, .int .i64 ss, .int .i64 q]) (by simp [results, Tryz.results6, go_sem, r0, r1, r2, r3, r4, r5]) rfl ?_
    rw [unhide HX]
    obtain ⟨bl, O, hr⟩ := unhide HO
    have own2 : Lay.tWriteResult.OwnIn w2 [.int .i64 0, .int .i64 k, .int .i64 i, .slice a n c, .int .i64 ss, .int .i64 q] ⟨0, x⟩ (w.heap.size + 1) w2.heap.size := ⟨bl, mkOwn_WriteResult (x := ⟨0, x⟩) O (show (Lit.int .i64 0).wf = true by decide) O.2.1, hr⟩
    exact toldPW_store (vs := [.int .i64 0, .int .i64 k, .int .i64 i, .slice a n c, .int .i64 ss, .int .i64 q]) own2 (Nat.le_refl _) (unhide HB)

end Go.Proofs.YtjofcmdlcoganaaGreatDoor

namespace Go.Proofs.YtjofcmdlcoganaaGreatDoor
open Go.RowKit

theorem grown_alloc {w w' : World} {o : Obj} {r : Option Nat} (h : (w.alloc o).grownBy w' r) : w.grownBy w' r := grown_trans (World.grownBy_alloc w o r) h

/-- At an operation of a plain region: 'append(s, q)', q laid into a block of its own first. -/
theorem wpList_append_int {w1 : World} {base : Nat} {v : Value} {n : Nat} {xs : List Value} (hown : w1.ownsRow base 2 1 v n xs) (q : Int) {ops : Array Oper} {rest : List Oper} {o : Oper} {a : Act} {Q : Exit → Act → World → Prop} (hgd : o.guard = none) (s x : Operand)
    (ho : o.op = .call { callee := .builtin .append, args := #[s, x], argTypes := #[25, 25] }) (hs : a.eval s = v) (hx : a.eval x = .slice (some ⟨w1.heap.size, 0, none⟩) 1 1)
    (hn : n ≤ 100000000) (hbase : base ≤ w1.heap.size)
    (h : ∀ g cap w', w'.ownsRow base 2 1 (.slice (some ⟨g, 0, none⟩) (n + 1) cap) (n + 1) (xs ++ [.int .i64 q]) → w1.grownBy w' v.ownBlock → Below base w1 w' → g < w'.heap.size → w1.heap.size < w'.heap.size → wpList Tryz.prog ops Q rest (a.put o.dst (.slice (some ⟨g, 0, none⟩) (n + 1) cap)) w') :
    wpList Tryz.prog ops Q (o :: rest) a (w1.alloc (.cells #[.int .i64 q] 2)) := by
  obtain ⟨i0, hi0, hz0, hz1, hz2⟩ := info_parts info2
  refine wpList_append_lies _ hgd s x 25 ho base 2 i0 _ 1 8 Tryz.underlying25 hi0 hz0 hz1 hz2 rfl (by omega) v n xs hs (hown.alloc _) ⟨w1.heap.size, 0, none⟩ 1 1 [.int .i64 q] hx rfl (World.news_of_block (cs := #[.int .i64 q]) (t := 2) (fr := (0, 0)) (heap_alloc_new w1 _)) (by simp [Value.oneCell']) (by omega) (by unfold maxLen; omega) (by omega) (by simp; omega) (w1.heap.size + 1) (by simp) ?_
  intro g cap w' h2 h3 _ h5
  have hg := grown_alloc h3
  have hsz := h3.size
  simp only [World.size_alloc] at hsz
  exact h g cap w' h2 hg ((Below.refl _ _).grown hg hbase (fun j hj => (hown.lt j hj).1)) h5 (by omega)

end Go.Proofs.YtjofcmdlcoganaaGreatDoor

namespace Go.Proofs.YtjofcmdlcoganaaGreatDoor
open Go.RowKit

theorem infoS : (Tryz.prog.info? 9).map (fun i => (i.zero, i.size, i.bytes)) = some (some (.string ⟨#[]⟩), 1, 16) := by kernel_rfl

/-- At an operation of a plain region: the new texts lie in a block of their own. -/
theorem wpList_append_strs {w1 : World} {base : Nat} {v : Value} {n : Nat} {xs : List Value} (hown : w1.ownsRow base 9 1 v n xs) (cs : List ByteArray) {ops : Array Oper} {rest : List Oper} {o : Oper} {a : Act} {Q : Exit → Act → World → Prop} (hgd : o.guard = none) (s x : Operand)
    (ho : o.op = .call { callee := .builtin .append, args := #[s, x], argTypes := #[57, 57] }) (hs : a.eval s = v) (m : Nat) (hx : a.eval x = .slice (some ⟨w1.heap.size, 0, none⟩) m m) (hm : cs.length = m) (hm0 : 0 < m)
    (hn : n + m ≤ 100000000) (hbase : base ≤ w1.heap.size)
    (h : ∀ g cap w', w'.ownsRow base 9 1 (.slice (some ⟨g, 0, none⟩) (n + m) cap) (n + m) (xs ++ cs.map Value.string) → w1.grownBy w' v.ownBlock → Below base w1 w' → g < w'.heap.size → w1.heap.size < w'.heap.size → wpList Tryz.prog ops Q rest (a.put o.dst (.slice (some ⟨g, 0, none⟩) (n + m) cap)) w') :
    wpList Tryz.prog ops Q (o :: rest) a (w1.alloc (.cells (cs.map Value.string).toArray 9)) := by
  obtain ⟨i0, hi0, hz0, hz1, hz2⟩ := info_parts infoS
  refine wpList_append_lies _ hgd s x 57 ho base 9 i0 _ 1 16 Tryz.underlying57 hi0 hz0 hz1 hz2 rfl (by omega) v n xs hs (hown.alloc _) ⟨w1.heap.size, 0, none⟩ m m (cs.map Value.string) hx (by simp [hm]) (World.news_of_block (cs := (cs.map Value.string).toArray) (t := 9) (fr := (0, 0)) (heap_alloc_new w1 _)) (by simp [Value.oneCell']) hm0 (by unfold maxLen; omega) (by omega) (by simp; omega) (w1.heap.size + 1) (by simp) ?_
  intro g cap w' h2 h3 _ h5
  have hg := grown_alloc h3
  have hsz := h3.size
  simp only [World.size_alloc] at hsz
  exact h g cap w' h2 hg ((Below.refl _ _).grown hg hbase (fun j hj => (hown.lt j hj).1)) h5 (by omega)

/-- At a step of a region that draws its order. -/
theorem step_append_strs {w1 : World} {base : Nat} {v : Value} {n : Nat} {xs : List Value} (hown : w1.ownsRow base 9 1 v n xs) (cs : List ByteArray) {ops : Array Oper} {o : Oper} {a : Act} {K : Act → World → Prop} {Q : Exit → Act → World → Prop} {E : Prop} (hgd : o.guard = none) (s x : Operand)
    (ho : o.op = .call { callee := .builtin .append, args := #[s, x], argTypes := #[57, 57] }) (hs : a.eval s = v) (m B : Nat) (hx : a.eval x = .slice (some ⟨B, 0, none⟩) m m) (hB : w1.heap[B]? = some (.cells (cs.map Value.string).toArray 9 (0, 0))) (hm : cs.length = m) (hm0 : 0 < m)
    (hn : n + m ≤ 100000000) (hbase : base ≤ w1.heap.size)
    (h : ∀ g cap w', w'.ownsRow base 9 1 (.slice (some ⟨g, 0, none⟩) (n + m) cap) (n + m) (xs ++ cs.map Value.string) → Below base w1 w' → g < w'.heap.size → w1.heap.size ≤ w'.heap.size → K (a.put o.dst (.slice (some ⟨g, 0, none⟩) (n + m) cap)) w') :
    if Region.wanted o (yielded ops a.tmps) = true then Oper.wp Tryz.prog o a w1 K Q else E := by
  obtain ⟨i0, hi0, hz0, hz1, hz2⟩ := info_parts infoS
  refine step_append_lies _ hgd s x 57 ho base 9 i0 _ 1 16 Tryz.underlying57 hi0 hz0 hz1 hz2 rfl (by omega) v n xs hs hown ⟨B, 0, none⟩ m m (cs.map Value.string) hx (by simp [hm]) (World.news_of_block (cs := (cs.map Value.string).toArray) (t := 9) (fr := (0, 0)) hB) (by simp [Value.oneCell']) hm0 (by unfold maxLen; omega) (by omega) hbase w1.heap.size rfl ?_
  intro g cap w' h2 h3 _ h5
  exact h g cap w' h2 ((Below.refl _ _).grown h3 hbase (fun j hj => (hown.lt j hj).1)) h5 h3.size

end Go.Proofs.YtjofcmdlcoganaaGreatDoor

namespace Go.Proofs.YtjofcmdlcoganaaGreatDoor
open Go.RowKit

theorem decF_digits (f : Nat) : ∀ n, n < 10 ^ (f + 1) → decF (f + 1) n = Lib.decDigits n := by
  induction f with
  | zero =>
    intro n hn
    have h : n < 10 := by omega
    rw [decF, if_pos h, Lib.decDigits, dif_pos h]
    rfl
  | succ f ih =>
    intro n hn
    by_cases h : n < 10
    · rw [decF, if_pos h, Lib.decDigits, dif_pos h]
      rfl
    · rw [decF, if_neg h, Lib.decDigits, dif_neg h, ih (n / 10) (by rw [Nat.pow_succ] at hn; omega)]
      rfl
theorem dec_itoa (n : Int) (h1 : -9999 ≤ n) (h2 : n ≤ 9999) : Lib.itoa n = dec n := by
  unfold Lib.itoa dec
  by_cases h : n < 0
  · rw [if_pos h, if_pos h, decF_digits 3 _ (by omega)]
  · rw [if_neg h, if_neg h, decF_digits 3 _ (by omega)]

theorem join3 (a b c : Bytes) : Lib.join [a, b, c] [44] = a ++ 44 :: (b ++ 44 :: c) := by
  simp [Lib.join, List.intercalate]
def Tab (w : World) : Prop := Lib.TabIs Tryz.prog w "internal/strconv.uint64pow10" .u64 Lib.pow10Tab
theorem Tab.later {w w' : World} (h : Tab w) (hb : Below w.heap.size w w') : Tab w' := Lib.tabBelow_of_tabIs h w' hb

theorem grow_below (w : World) (k : Nat) (os : Array Obj) : Below w.heap.size w (Go.Sort.grow (w.drewN k) os) :=
  ⟨rfl, rfl, rfl, by simp [Go.Sort.grow], fun i hi => by simp [Go.Sort.grow, Array.getElem?_append, hi]⟩

theorem formatC (n : Int) (w : World) (h1 : -9999 ≤ n) (h2 : n ≤ 9999) (ht : Tab w) :
    Calls Tryz.prog 53 #[.int .i64 n, .int .i64 10] w fun e w' => e = .returned (str (dec n)) ∧ Below w.heap.size w w' := by
  refine (Tryz.strconv_FormatInt_10 n (by omega) (by omega) w ht).mono ?_
  rintro e w' ⟨rfl, k, os, rfl⟩
  rw [dec_itoa n h1 h2]
  exact ⟨rfl, grow_below _ _ _⟩

/-- A block of new cells that may be written, here three of them, is there. -/
def Row3 (w : World) (g : Nat) (a b c : Value) : Prop := g < w.heap.size ∧ (∀ o, w.frozen? ⟨g, o, none⟩ = false) ∧ w.cell? ⟨g, 0, none⟩ = some a ∧ w.cell? ⟨g, 1, none⟩ = some b ∧ w.cell? ⟨g, 2, none⟩ = some c
def Row2 (w : World) (g : Nat) (a b : Value) : Prop := g < w.heap.size ∧ (∀ o, w.frozen? ⟨g, o, none⟩ = false) ∧ w.cell? ⟨g, 0, none⟩ = some a ∧ w.cell? ⟨g, 1, none⟩ = some b
theorem Row3.later {w w' : World} {g : Nat} {a b c : Value} (h : Row3 w g a b c) (hb : Below w.heap.size w w') : Row3 w' g a b c :=
  ⟨Nat.lt_of_lt_of_le h.1 hb.size, fun o => (hb.frozen (p := ⟨g, o, none⟩) h.1).trans (h.2.1 o), cell_keep hb h.2.2.1, cell_keep hb h.2.2.2.1, cell_keep hb h.2.2.2.2⟩
theorem Row2.later {w w' : World} {g : Nat} {a b : Value} (h : Row2 w g a b) (hb : Below w.heap.size w w') : Row2 w' g a b :=
  ⟨Nat.lt_of_lt_of_le h.1 hb.size, fun o => (hb.frozen (p := ⟨g, o, none⟩) h.1).trans (h.2.1 o), cell_keep hb h.2.2.1, cell_keep hb h.2.2.2⟩
theorem Row3.set0 {w : World} {g : Nat} {a b c : Value} (h : Row3 w g a b c) (v : Value) : Row3 (w.setCell ⟨g, 0, none⟩ v) g v b c := by
  obtain ⟨h0, h1, h2, h3, h4⟩ := h
  refine ⟨by simpa using h0, fun o => ?_, ?_, ?_, ?_⟩ <;> simp [go_sem, h1, h2, h3, h4]
theorem Row3.set1 {w : World} {g : Nat} {a b c : Value} (h : Row3 w g a b c) (v : Value) : Row3 (w.setCell ⟨g, 1, none⟩ v) g a v c := by
  obtain ⟨h0, h1, h2, h3, h4⟩ := h
  refine ⟨by simpa using h0, fun o => ?_, ?_, ?_, ?_⟩ <;> simp [go_sem, h1, h2, h3, h4]
theorem Row3.set2 {w : World} {g : Nat} {a b c : Value} (h : Row3 w g a b c) (v : Value) : Row3 (w.setCell ⟨g, 2, none⟩ v) g a b v := by
  obtain ⟨h0, h1, h2, h3, h4⟩ := h
  refine ⟨by simpa using h0, fun o => ?_, ?_, ?_, ?_⟩ <;> simp [go_sem, h1, h2, h3, h4]
theorem Row2.setOther {w : World} {g k : Nat} {a b : Value} (h : Row2 w g a b) (hk : g ≠ k) (o : Nat) (v : Value) : Row2 (w.setCell ⟨k, o, none⟩ v) g a b := by
  obtain ⟨h0, h1, h2, h3⟩ := h
  refine ⟨by simpa using h0, fun o => ?_, ?_, ?_⟩ <;> simp [go_sem, h1, h2, h3]
theorem Row3.new {w : World} {T : TypeId} {a b c : Value} : Row3 (w.alloc (.cells #[a, b, c] T)) w.heap.size a b c := by
  refine ⟨by simp, fun o => ?_, ?_, ?_, ?_⟩ <;> simp [go_sem]
theorem Row2.new {w : World} {T : TypeId} {a b : Value} : Row2 (w.alloc (.cells #[a, b] T)) w.heap.size a b := by
  refine ⟨by simp, fun o => ?_, ?_, ?_⟩ <;> simp [go_sem]

/-- What the world keeps while the words are written: the answer's block, the words' block. -/
def Words (w : World) (r g : Nat) (w0 : World) (a b c : Bytes) : Prop := Row2 w r (.int .i64 0) (str []) ∧ Row3 w g (str a) (str b) (str c) ∧ Below w0.heap.size w0 w ∧ w0.heap.size ≤ r ∧ r < g
theorem Words.later {w w' : World} {r g : Nat} {w0 : World} {a b c : Bytes} (h : Words w r g w0 a b c) (hb : Below w.heap.size w w') : Words w' r g w0 a b c :=
  ⟨h.1.later hb, h.2.1.later hb, below_keep h.2.2.1 hb, h.2.2.2⟩
theorem Words.set0 {w : World} {r g : Nat} {w0 : World} {a b c : Bytes} (h : Words w r g w0 a b c) (v : Bytes) : Words (w.setCell ⟨g, 0, none⟩ (str v)) r g w0 v b c :=
  ⟨h.1.setOther (by have := h.2.2.2; omega) _ _, h.2.1.set0 _, h.2.2.1.setCell (by have := h.2.2.2; show w0.heap.size ≤ g; omega) _, h.2.2.2⟩
theorem Words.set1 {w : World} {r g : Nat} {w0 : World} {a b c : Bytes} (h : Words w r g w0 a b c) (v : Bytes) : Words (w.setCell ⟨g, 1, none⟩ (str v)) r g w0 a v c :=
  ⟨h.1.setOther (by have := h.2.2.2; omega) _ _, h.2.1.set1 _, h.2.2.1.setCell (by have := h.2.2.2; show w0.heap.size ≤ g; omega) _, h.2.2.2⟩
theorem Words.set2 {w : World} {r g : Nat} {w0 : World} {a b c : Bytes} (h : Words w r g w0 a b c) (v : Bytes) : Words (w.setCell ⟨g, 2, none⟩ (str v)) r g w0 a b v :=
  ⟨h.1.setOther (by have := h.2.2.2; omega) _ _, h.2.1.set2 _, h.2.2.1.setCell (by have := h.2.2.2; show w0.heap.size ≤ g; omega) _, h.2.2.2⟩

theorem joinC (g : Nat) (a b c : Bytes) (w : World) (h : Row3 w g (str a) (str b) (str c)) (hl : (a ++ 44 :: (b ++ 44 :: c)).length ≤ 1000) :
    Calls Tryz.prog 27 #[.slice (some ⟨g, 0, none⟩) 3 3, .string ⟨#[44]⟩] w fun e w' => e = .returned (str (a ++ 44 :: (b ++ 44 :: c))) ∧ Below w.heap.size w w' := by
  obtain ⟨g0, -, g2, g3, g4⟩ := h
  have e : Lib.join ([⟨a.toArray⟩, ⟨b.toArray⟩, ⟨c.toArray⟩].map fun x : ByteArray => x.data.toList) (⟨#[44]⟩ : ByteArray).data.toList = a ++ 44 :: (b ++ 44 :: c) := by
    rw [← join3]
    simp
  have := Tryz.strings_Join g 0 3 [⟨a.toArray⟩, ⟨b.toArray⟩, ⟨c.toArray⟩] ⟨#[44]⟩ w (fun j x hj => by
    match j, hj with
    | 0, hj => simp at hj; subst hj; exact g2
    | 1, hj => simp at hj; subst hj; exact g3
    | 2, hj => simp at hj; subst hj; exact g4
    | j + 3, hj => simp at hj) g0 (by simp) (by simp) (by rw [e]; omega)
  rw [e] at this
  exact this

set_option maxHeartbeats 1000000 in
theorem implText_ok (v : Value) (x y z : Int) (w : World) (h : IsInts w v [x, y, z]) (hf : vecFault [x, y, z] = 0) (ht : Tab w) :
    Calls Tryz.prog 51 #[v] w fun e w' => e = .returned (.agg #[.int .i64 0, str (text3 x y z)]) ∧ Below w.heap.size w w' := by
  obtain ⟨hx, hy, hz⟩ := fault3 hf
  have HT := hide ht
  clear ht
  have hmk : ∀ w : World, (Instr.makeSlice 57 (.int .i64 3) (.int .i64 3)).run Tryz.prog w = .ok (.slice (some ⟨w.heap.size, 0, none⟩) 3 3) (w.alloc (.cells #[.string ⟨#[]⟩, .string ⟨#[]⟩, .string ⟨#[]⟩] 9)) := fun _ => by kernel_rfl
  have i0 : ∀ w : World, (Instr.index 66 (.agg #[.int .i64 x, .int .i64 y, .int .i64 z]) (.int .i64 0)).run Tryz.prog w = .ok (.int .i64 x) w := fun _ => by kernel_rfl
  have i1 : ∀ w : World, (Instr.index 66 (.agg #[.int .i64 x, .int .i64 y, .int .i64 z]) (.int .i64 1)).run Tryz.prog w = .ok (.int .i64 y) w := fun _ => by kernel_rfl
  have i2 : ∀ w : World, (Instr.index 66 (.agg #[.int .i64 x, .int .i64 y, .int .i64 z]) (.int .i64 2)).run Tryz.prog w = .ok (.int .i64 z) w := fun _ => by kernel_rfl
  go_enter Tryz.func51, Tryz.ntmps51
  go_wp2_with fail
  refine (vectorOf_ok v x y z _ (h.later ((Below.refl _ _).alloc (Nat.le_refl _) _)) hf).mono ?_
  rintro e w1 ⟨rfl, hb⟩
  have hr : Row2 w1 w.heap.size (.int .i64 0) (str []) := Row2.new.later hb
  have hB1 : Below w.heap.size w w1 := ((Below.refl _ _).alloc (Nat.le_refl _) _).trans (hb.mono (by simp))
  have hz0 := hr.1
  have HR := hide hr
  have HB := hide hB1
  clear hb hB1 h hf hr
  simp only [arr3]
  go_wp2_with fail
  refine wp_loop_rounds 4 ?_
  rw [rounds_succ]
  go_wp2_with fail
  have wa : Words ((w1.alloc (.cells #[.int .i64 x, .int .i64 y, .int .i64 z] 66)).alloc (.cells #[.string ⟨#[]⟩, .string ⟨#[]⟩, .string ⟨#[]⟩] 9)) w.heap.size (w1.heap.size + 1) w [] [] [] := by
    refine ⟨((unhide HR).later ((Below.refl _ _).alloc (Nat.le_refl _) _)).later ((Below.refl _ _).alloc (Nat.le_refl _) _), ?_, ((unhide HB).alloc (by omega) _).alloc (by simp; omega) _, Nat.le_refl _, by omega⟩
    have := Row3.new (w := w1.alloc (.cells #[.int .i64 x, .int .i64 y, .int .i64 z] 66)) (T := 9) (a := str []) (b := str []) (c := str [])
    simpa [str] using this
  refine (formatC x _ (by omega) (by omega) ((unhide HT).later wa.2.2.1)).mono ?_
  rintro e w2 ⟨rfl, hb2⟩
  have wb := wa.later hb2
  have hz2 : w1.heap.size < w2.heap.size := by have := hb2.size; simp at this; omega
  obtain ⟨-, ⟨g0, g1, g2, g3, g4⟩, -, -, -⟩ := id wb
  have WB := hide wb
  clear wa hb2 wb HB HR
  simp only [str] at g2 g3 g4 ⊢
  go_wp2_with fail
  rw [rounds_succ]
  go_wp2_with fail
  have wa : Words (w2.setCell ⟨w1.heap.size + 1, 0, none⟩ (str (dec x))) w.heap.size (w1.heap.size + 1) w (dec x) [] [] := (unhide WB).set0 (dec x)
  clear g0 g1 g2 g3 g4 WB
  refine (formatC y _ (by omega) (by omega) ((unhide HT).later wa.2.2.1)).mono ?_
  rintro e w3 ⟨rfl, hb2⟩
  have wb := wa.later hb2
  have hz3 : w1.heap.size < w3.heap.size := by have := hb2.size; simp at this; omega
  obtain ⟨-, ⟨g0, g1, g2, g3, g4⟩, -, -, -⟩ := id wb
  have WB := hide wb
  clear wa hb2 wb
  simp only [str] at g2 g3 g4 ⊢
  go_wp2_with fail
  rw [rounds_succ]
  go_wp2_with fail
  have wa : Words (w3.setCell ⟨w1.heap.size + 1, 1, none⟩ (str (dec y))) w.heap.size (w1.heap.size + 1) w (dec x) (dec y) [] := (unhide WB).set1 (dec y)
  clear g0 g1 g2 g3 g4 WB
  refine (formatC z _ (by omega) (by omega) ((unhide HT).later wa.2.2.1)).mono ?_
  rintro e w4 ⟨rfl, hb2⟩
  have wb := wa.later hb2
  have hz4 : w1.heap.size < w4.heap.size := by have := hb2.size; simp at this; omega
  obtain ⟨-, ⟨g0, g1, g2, g3, g4⟩, -, -, -⟩ := id wb
  have WB := hide wb
  clear wa hb2 wb
  simp only [str] at g2 g3 g4 ⊢
  go_wp2_with fail
  rw [rounds_succ]
  go_wp2_with fail
  have wa : Words (w4.setCell ⟨w1.heap.size + 1, 2, none⟩ (str (dec z))) w.heap.size (w1.heap.size + 1) w (dec x) (dec y) (dec z) := (unhide WB).set2 (dec z)
  clear g0 g1 g2 g3 g4 WB
  have hl := text3_len x y z
  refine (joinC _ _ _ _ _ wa.2.1 (by unfold text3 at hl; omega)).mono ?_
  rintro e w5 ⟨rfl, hb2⟩
  have wb := wa.later hb2
  obtain ⟨⟨g0, g1, g2, g3⟩, -, g4, -, -⟩ := id wb
  have HB := hide g4
  have e3 : dec x ++ 44 :: (dec y ++ 44 :: dec z) = text3 x y z := rfl
  rw [e3]
  clear wa hb2 wb g4 hl
  simp only [str] at g2 g3 ⊢
  go_wp2_with fail
  refine bodyPost_ret (v := .agg #[.int .i64 0, str (text3 x y z)]) (by simp [results, Tryz.results51, go_sem, str, g2, g3]) rfl ⟨rfl, ?_⟩
  exact ((unhide HB).setCell (by simp) _).setCell (by simp) _

set_option maxHeartbeats 1000000 in
theorem implText_bad (v : Value) (zs : List Int) (w : World) (h : IsInts w v zs) (hf : vecFault zs ≠ 0) :
    Calls Tryz.prog 51 #[v] w fun e w' => e = .returned (.agg #[.int .i64 (vecFault zs), str []]) ∧ Below w.heap.size w w' := by
  have hne : (vecFault zs != 0) = true := by rw [bne_iff_ne]; exact hf
  go_enter Tryz.func51, Tryz.ntmps51
  go_wp2_with fail
  refine (vectorOf_bad v zs _ (h.later ((Below.refl _ _).alloc (Nat.le_refl _) _)) hf).mono ?_
  rintro e w1 ⟨rfl, hb⟩
  have hr : Row2 w1 w.heap.size (.int .i64 0) (str []) := Row2.new.later hb
  have hB1 : Below w.heap.size w w1 := ((Below.refl _ _).alloc (Nat.le_refl _) _).trans (hb.mono (by simp))
  obtain ⟨g0, g1, g2, g3⟩ := hr
  have HB := hide hB1
  clear hb hB1 h hf
  simp only [str] at g2 g3
  simp only [arr3]
  go_wp2_with fail
  refine bodyPost_ret (v := .agg #[.int .i64 (vecFault zs), str []]) (by simp [results, Tryz.results51, go_sem, str, g0, g2, g3]) rfl ⟨rfl, ?_⟩
  exact (((unhide HB).setCell (by simp) _).setCell (by simp) _).alloc (by simp; omega) _


theorem implText (v : Value) (zs : List Int) (w : World) (h : IsInts w v zs) (ht : Tab w) :
    Calls Tryz.prog 51 #[v] w fun e w' => e = .returned (.agg #[.int .i64 (vecFault zs), str (vecText zs)]) ∧ Below w.heap.size w w' := by
  by_cases hf : vecFault zs = 0
  · match zs, (vecFault_zero hf).1 with
    | [x, y, z], _ =>
      have e : vecText [x, y, z] = text3 x y z := by simp [vecText, hf]
      rw [e, hf]
      exact implText_ok v x y z w h hf ht
  · have e : vecText zs = [] := by simp [vecText, hf]
    rw [e]
    exact implText_bad v zs w h hf

end Go.Proofs.YtjofcmdlcoganaaGreatDoor

namespace Go.Proofs.YtjofcmdlcoganaaGreatDoor
open Go.RowKit

theorem decimalC (n : Int) (w : World) (h1 : -9999 ≤ n) (h2 : n ≤ 9999) (ht : Tab w) :
    Calls Tryz.prog 26 #[.int .i64 n] w fun e w' => e = .returned (str (dec n)) ∧ Below w.heap.size w w' := by
  have L := hide (formatC n w h1 h2 ht)
  clear ht
  go_enter Tryz.func26, Tryz.ntmps26
  go_wp2_with fail
  refine (unhide L).mono ?_
  rintro e w1 ⟨rfl, hb⟩
  have HB := hide hb
  clear hb L
  simp only [str]
  go_wp2_with fail
  go_ret
  exact ⟨rfl, unhide HB⟩

theorem fieldText (c : Int) (s : ByteArray) (w : World) : (Instr.field 32 (.agg #[.int .i64 c, .string s]) 1).run Tryz.prog w = .ok (.string s) w := by kernel_rfl

theorem listOfC (x y z : Int) (w : World) (hw : ∀ u ∈ [x, y, z], (Lit.int .i64 u).wf = true) :
    Calls Tryz.prog 52 #[.agg #[.int .i64 x, .int .i64 y, .int .i64 z]] w fun e w' => ∃ a c, e = .returned (.slice a 3 c) ∧ IsInts w' (.slice a 3 c) [x, y, z] ∧ Below w.heap.size w w' := by
  refine (listOf3 x y z w).mono ?_
  rintro e w' ⟨rfl, rfl⟩
  refine ⟨_, _, rfl, isInts_row (zs := [x, y, z]) hw (own_new3 (W := w.alloc (.cells #[.int .i64 x, .int .i64 y, .int .i64 z] 66)) (base := w.heap.size) (T := 2) (by simp) (by simp)), ((Below.refl _ _).alloc (Nat.le_refl _) _).alloc (by simp) _⟩

def ToldWords (w w' : World) (e : Ending) (cs : List Bytes) : Prop := ∃ g cap, e = .returned (.slice (some ⟨g, 0, none⟩) cs.length cap) ∧ w'.ownsRow w.heap.size 9 1 (.slice (some ⟨g, 0, none⟩) cs.length cap) cs.length (cs.map str) ∧ Below w.heap.size w w'

set_option maxRecDepth 10000 in
set_option maxHeartbeats 1000000 in
theorem words_drop (i : Int) (w : World) (hi : 1 ≤ i ∧ i ≤ 999) (ht : Tab w) :
    Calls Tryz.prog 25 #[dropV, .int .i64 i] w fun e w' => ToldWords w w' e [[100, 114, 111, 112], dec i] := by
  have L : Hid (∀ W, Tab W → Calls Tryz.prog 26 #[.int .i64 i] W fun e w' => e = .returned (str (dec i)) ∧ Below W.heap.size W w') := fun W h => decimalC i W (by omega) (by omega) h
  have a1 := assertDrop2
  have m1 := methDrop
  have HT := hide ht
  clear ht
  simp only [dropV, str] at *
  generalize dec i = di at *
  go_enter Tryz.func25, Tryz.ntmps25
  go_wp2_with fail
  refine (verbDrop _).mono ?_
  rintro e w1 ⟨rfl, hb1⟩
  have HB := hide hb1
  clear hb1
  go_wp2_with fail
  refine (unhide L _ ((unhide HT).later (unhide HB))).mono ?_
  rintro e w2 ⟨rfl, hb⟩
  replace HB := hide ((unhide HB).trans (hb.mono (unhide HB).size))
  clear hb
  go_wp2_with fail
  go_ret
  have hz := (unhide HB).size
  exact ⟨w2.heap.size, 2, rfl, World.ownsRow_lit w2 _ 2 hz (by unfold maxLen; omega) rfl, (unhide HB).alloc hz _⟩

set_option maxRecDepth 10000 in
set_option maxHeartbeats 1000000 in
theorem words_put (i x y z : Int) (w : World) (hi : 1 ≤ i ∧ i ≤ 999) (hv : vecFault [x, y, z] = 0) (ht : Tab w) :
    Calls Tryz.prog 25 #[putV x y z, .int .i64 i] w fun e w' => ToldWords w w' e [[112, 117, 116], dec i, vecText [x, y, z]] := by
  have L : Hid (∀ W, Tab W → Calls Tryz.prog 26 #[.int .i64 i] W fun e w' => e = .returned (str (dec i)) ∧ Below W.heap.size W w') := fun W h => decimalC i W (by omega) (by omega) h
  have LV : Hid (∀ W v, Tab W → IsInts W v [x, y, z] → Calls Tryz.prog 51 #[v] W fun e w' => e = .returned (.agg #[.int .i64 0, str (vecText [x, y, z])]) ∧ Below W.heap.size W w') := fun W v h hi => by
    have := implText v [x, y, z] W hi h
    rw [hv] at this
    exact this
  have HW : Hid (∀ u ∈ [x, y, z], (Lit.int .i64 u).wf = true) := by
    obtain ⟨b1, b2, b3⟩ := fault3 hv
    intro u hu
    simp at hu
    rcases hu with rfl | rfl | rfl <;> exact wf_of_bd (by omega)
  have a1 := assertPut2
  have m1 := methPut
  have f1 := fieldText
  have HT := hide ht
  clear ht hv
  simp only [putV, str] at *
  generalize hvt : vecText [x, y, z] = vt at *
  generalize dec i = di at *
  clear hvt
  go_enter Tryz.func25, Tryz.ntmps25
  go_wp2_with fail
  refine (verbPut x y z _).mono ?_
  rintro e w1 ⟨rfl, hb1⟩
  have HB := hide hb1
  clear hb1
  go_wp2_with fail
  refine (unhide L _ ((unhide HT).later (unhide HB))).mono ?_
  rintro e w2 ⟨rfl, hb⟩
  replace HB := hide ((unhide HB).trans (hb.mono (unhide HB).size))
  have hz2 := (unhide HB).size
  clear hb
  have O : (w2.alloc (.cells #[.string ⟨#[112, 117, 116]⟩, .string ⟨di.toArray⟩] 9)).ownsRow w2.heap.size 9 1 (.slice (some ⟨w2.heap.size, 0, none⟩) 2 2) 2 [.string ⟨#[112, 117, 116]⟩, .string ⟨di.toArray⟩] := World.ownsRow_lit w2 _ 2 (Nat.le_refl _) (by unfold maxLen; omega) rfl
  have nb : Below w2.heap.size w2 ((w2.alloc (.cells #[.string ⟨#[112, 117, 116]⟩, .string ⟨di.toArray⟩] 9)).alloc (.cells #[.int .i64 x, .int .i64 y, .int .i64 z] 89)) := ((Below.refl _ _).alloc (Nat.le_refl _) _).alloc (by simp) _
  have O2 := own_below O ((Below.refl (w2.alloc (.cells #[.string ⟨#[112, 117, 116]⟩, .string ⟨di.toArray⟩] 9)).heap.size _).alloc (Nat.le_refl _) (.cells #[.int .i64 x, .int .i64 y, .int .i64 z] 89))
  have hz3 : w2.heap.size < ((w2.alloc (.cells #[.string ⟨#[112, 117, 116]⟩, .string ⟨di.toArray⟩] 9)).alloc (.cells #[.int .i64 x, .int .i64 y, .int .i64 z] 89)).heap.size := by simp; omega
  clear O
  go_wp2_with fail
  generalize (w2.alloc (.cells #[.string ⟨#[112, 117, 116]⟩, .string ⟨di.toArray⟩] 9)).alloc (.cells #[.int .i64 x, .int .i64 y, .int .i64 z] 89) = W3 at *
  refine (listOfC x y z _ (unhide HW)).mono ?_
  rintro e w4 ⟨a4, c4, rfl, I4, hb⟩
  replace O2 := own_below O2 hb
  replace HB := hide (((unhide HB).trans (nb.mono hz2)).trans (hb.mono (by omega)))
  have hz4 := hb.size
  clear hb nb
  go_wp2_with fail
  refine (unhide LV _ _ ((unhide HT).later (unhide HB)) I4).mono ?_
  rintro e w5 ⟨rfl, hb⟩
  replace O2 := own_below O2 hb
  replace HB := hide ((unhide HB).trans (hb.mono (by omega)))
  have hz5 := hb.size
  clear hb I4
  go_wp2_with (at_builtin; refine wpList_append_strs O2 [⟨vt.toArray⟩] rfl _ _ rfl rfl 1 rfl rfl (by omega) (by omega) (by omega) ?_)
  rintro g6 d6 w6 O3 - hb6 hl6 hz6
  replace HB := hide ((unhide HB).trans (hb6.mono hz2))
  clear O2 hb6
  have HO := hide O3
  clear O3
  go_wp2_with fail
  go_ret
  exact ⟨g6, d6, rfl, own_mono hz2 (unhide HO), unhide HB⟩

end Go.Proofs.YtjofcmdlcoganaaGreatDoor

namespace Go.Proofs.YtjofcmdlcoganaaGreatDoor
open Go.RowKit

structure DTextResult where
  code : Int
  text : ByteArray

def Lay.tTextResult : Lay DTextResult := Lay.via (Lay.pair Lay.int Lay.str) (fun x => (x.code, x.text)) (fun p => ⟨p.1, p.2⟩)

theorem lies_TextResult {w : World} {cs : List Value} {x : DTextResult} {bl : List Nat} : Lay.tTextResult.lies w cs x bl ↔ cs = [.int .i64 x.code, .string x.text] ∧ bl = [] ∧ (Lit.int .i64 x.code).wf = true := by
  constructor
  · intro h
    obtain ⟨c0_, r0_, e0_, s0_, rfl, rfl, h0, h1⟩ := h
    obtain ⟨rfl, w0, rfl⟩ := h0
    obtain ⟨rfl, rfl⟩ := h1
    exact ⟨by simp, by simp, w0⟩
  · rintro ⟨rfl, hbl, w0⟩
    rw [hbl]
    exact ⟨[.int .i64 x.code], [.string x.text], [], [], rfl, by simp, ⟨rfl, w0, rfl⟩, ⟨rfl, rfl⟩⟩

end Go.Proofs.YtjofcmdlcoganaaGreatDoor
