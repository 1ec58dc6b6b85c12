/-
  Texts of this proof in one: ImplWords, WTRes, ImplWText, MsgWordsP, LayMore, StrConcat, ImplMWords, ImplFaced, ImplMText, ImplNetF, ImplSameM, ImplClone, CloneC, ImplCopiedM, ImplSent, ImplSend, AppMsgs, LayPart, MsgConcat, DropPlain.
  Their conditions stand in their theorems.
-/
import Derived.Test.YtkmfkaljdngigaaGreatDoorNq05
import Derived.Deep.RegionHeld3
import Derived.Test.YtkmfkaljdngigaaGreatDoorNq01
import Derived.Maps.AppendAt
import Derived.Test.YtkmfkaljdngigaaGreatDoorChecked
import Derived.Lib.AppendZerosOnto
import Derived.BigQuiet
import Derived.Deep.QuietTactic
import Derived.WalkSmall
import Derived.Defers
import Derived.Recover
import Derived.Laws.Pointers
import Derived.Test.YtkmfkaljdngigaaGreatDoorNq02
import Derived.WalkKit
import Derived.Deep.CutRange

namespace Go.Proofs.YtkmfkaljdngigaaGreatDoor
open Go.RowKit

theorem fieldText (c : Int) (s : ByteArray) (w : World) : (Instr.field 40 (.agg #[.int .i64 c, .string s]) 1).run Tryz.prog w = .ok (.string s) w := by kernel_rfl

theorem listOfC (x y z : Int) (w : World) (hw : ∀ u ∈ [x, y, z], (Lit.int .i64 u).wf = true) :
    Calls Tryz.prog 100 #[.agg #[.int .i64 x, .int .i64 y, .int .i64 z]] w fun e w' => ∃ a c, e = .returned (.slice a 3 c) ∧ IsInts w' (.slice a 3 c) [x, y, z] ∧ Below w.heap.size w w' := by
  refine (listOf3 x y z w).mono ?_
  rintro e w' ⟨rfl, rfl⟩
  refine ⟨_, _, rfl, isInts_row (zs := [x, y, z]) hw (own_new3 (W := w.alloc (.cells #[.int .i64 x, .int .i64 y, .int .i64 z] 130)) (base := w.heap.size) (T := 2) (by simp) (by simp)), ((Below.refl _ _).alloc (Nat.le_refl _) _).alloc (by simp) _⟩

def ToldWords (w w' : World) (e : Ending) (cs : List Bytes) : Prop := ∃ g cap, e = .returned (.slice (some ⟨g, 0, none⟩) cs.length cap) ∧ w'.ownsRow w.heap.size 9 1 (.slice (some ⟨g, 0, none⟩) cs.length cap) cs.length (cs.map str) ∧ Below w.heap.size w w'

set_option maxRecDepth 10000 in
set_option maxHeartbeats 1000000 in
theorem words_drop (i : Int) (w : World) (hi : 1 ≤ i ∧ i ≤ 999) (ht : Tab w) :
    Calls Tryz.prog 86 #[dropV, .int .i64 i] w fun e w' => ToldWords w w' e [[100, 114, 111, 112], dec i] := by
  have L : Hid (∀ W, Tab W → Calls Tryz.prog 61 #[.int .i64 i] W fun e w' => e = .returned (str (dec i)) ∧ Below W.heap.size W w') := fun W h => decimalC i W (by omega) (by omega) h
  have a1 := assertDrop2
  have m1 := methDrop
  have HT := hide ht
  clear ht
  simp only [dropV, str] at *
  generalize dec i = di at *
  go_enter Tryz.func86, Tryz.ntmps86
  go_wp2_with fail
  refine (verbDrop _).mono ?_
  rintro e w1 ⟨rfl, hb1⟩
  have HB := hide hb1
  clear hb1
  go_wp2_with fail
  refine (unhide L _ ((unhide HT).later (unhide HB))).mono ?_
  rintro e w2 ⟨rfl, hb⟩
  replace HB := hide ((unhide HB).trans (hb.mono (unhide HB).size))
  clear hb
  go_wp2_with fail
  go_ret
  have hz := (unhide HB).size
  exact ⟨w2.heap.size, 2, rfl, World.ownsRow_lit w2 _ 2 hz (by unfold maxLen; omega) rfl, (unhide HB).alloc hz _⟩

set_option maxRecDepth 10000 in
set_option maxHeartbeats 1000000 in
theorem words_put (i x y z : Int) (w : World) (hi : 1 ≤ i ∧ i ≤ 999) (hv : vecFault [x, y, z] = 0) (ht : Tab w) :
    Calls Tryz.prog 86 #[putV x y z, .int .i64 i] w fun e w' => ToldWords w w' e [[112, 117, 116], dec i, vecText [x, y, z]] := by
  have L : Hid (∀ W, Tab W → Calls Tryz.prog 61 #[.int .i64 i] W fun e w' => e = .returned (str (dec i)) ∧ Below W.heap.size W w') := fun W h => decimalC i W (by omega) (by omega) h
  have LV : Hid (∀ W v, Tab W → IsInts W v [x, y, z] → Calls Tryz.prog 99 #[v] W fun e w' => e = .returned (.agg #[.int .i64 0, str (vecText [x, y, z])]) ∧ Below W.heap.size W w') := fun W v h hi => by
    have := implText v [x, y, z] W hi h
    rw [hv] at this
    exact this
  have HW : Hid (∀ u ∈ [x, y, z], (Lit.int .i64 u).wf = true) := by
    obtain ⟨b1, b2, b3⟩ := fault3 hv
    intro u hu
    simp at hu
    rcases hu with rfl | rfl | rfl <;> exact wf_of_bd (by omega)
  have a1 := assertPut2
  have m1 := methPut
  have f1 := fieldText
  have HT := hide ht
  clear ht hv
  simp only [putV, str] at *
  generalize hvt : vecText [x, y, z] = vt at *
  generalize dec i = di at *
  clear hvt
  go_enter Tryz.func86, Tryz.ntmps86
  go_wp2_with fail
  refine (verbPut x y z _).mono ?_
  rintro e w1 ⟨rfl, hb1⟩
  have HB := hide hb1
  clear hb1
  go_wp2_with fail
  refine (unhide L _ ((unhide HT).later (unhide HB))).mono ?_
  rintro e w2 ⟨rfl, hb⟩
  replace HB := hide ((unhide HB).trans (hb.mono (unhide HB).size))
  have hz2 := (unhide HB).size
  clear hb
  have O : (w2.alloc (.cells #[.string ⟨#[112, 117, 116]⟩, .string ⟨di.toArray⟩] 9)).ownsRow w2.heap.size 9 1 (.slice (some ⟨w2.heap.size, 0, none⟩) 2 2) 2 [.string ⟨#[112, 117, 116]⟩, .string ⟨di.toArray⟩] := World.ownsRow_lit w2 _ 2 (Nat.le_refl _) (by unfold maxLen; omega) rfl
  have nb : Below w2.heap.size w2 ((w2.alloc (.cells #[.string ⟨#[112, 117, 116]⟩, .string ⟨di.toArray⟩] 9)).alloc (.cells #[.int .i64 x, .int .i64 y, .int .i64 z] 134)) := ((Below.refl _ _).alloc (Nat.le_refl _) _).alloc (by simp) _
  have O2 := own_below O ((Below.refl (w2.alloc (.cells #[.string ⟨#[112, 117, 116]⟩, .string ⟨di.toArray⟩] 9)).heap.size _).alloc (Nat.le_refl _) (.cells #[.int .i64 x, .int .i64 y, .int .i64 z] 134))
  have hz3 : w2.heap.size < ((w2.alloc (.cells #[.string ⟨#[112, 117, 116]⟩, .string ⟨di.toArray⟩] 9)).alloc (.cells #[.int .i64 x, .int .i64 y, .int .i64 z] 134)).heap.size := by simp; omega
  clear O
  go_wp2_with fail
  generalize (w2.alloc (.cells #[.string ⟨#[112, 117, 116]⟩, .string ⟨di.toArray⟩] 9)).alloc (.cells #[.int .i64 x, .int .i64 y, .int .i64 z] 134) = W3 at *
  refine (listOfC x y z _ (unhide HW)).mono ?_
  rintro e w4 ⟨a4, c4, rfl, I4, hb⟩
  replace O2 := own_below O2 hb
  replace HB := hide (((unhide HB).trans (nb.mono hz2)).trans (hb.mono (by omega)))
  have hz4 := hb.size
  clear hb nb
  go_wp2_with fail
  refine (unhide LV _ _ ((unhide HT).later (unhide HB)) I4).mono ?_
  rintro e w5 ⟨rfl, hb⟩
  replace O2 := own_below O2 hb
  replace HB := hide ((unhide HB).trans (hb.mono (by omega)))
  have hz5 := hb.size
  clear hb I4
  go_wp2_with (at_builtin; refine wpList_append_strs O2 [⟨vt.toArray⟩] rfl _ _ rfl rfl 1 rfl rfl (by omega) (by omega) (by omega) ?_)
  rintro g6 d6 w6 O3 - hb6 hl6 hz6
  replace HB := hide ((unhide HB).trans (hb6.mono hz2))
  clear O2 hb6
  have HO := hide O3
  clear O3
  go_wp2_with fail
  go_ret
  exact ⟨g6, d6, rfl, own_mono hz2 (unhide HO), unhide HB⟩

end Go.Proofs.YtkmfkaljdngigaaGreatDoor

namespace Go.Proofs.YtkmfkaljdngigaaGreatDoor
open Go.RowKit

def wtextR (x : DWrite) : DTextResult := ⟨writeFault x.kind x.id x.vec x.session x.seq, ⟨(writeText x.kind x.id x.vec x.session x.seq).toArray⟩⟩
theorem fault_codes (k i : Int) (zs : List Int) (s q : Int) : (Lit.int .i64 (writeFault k i zs s q)).wf = true := by
  have hv : vecFault zs = 0 ∨ vecFault zs = 1 ∨ vecFault zs = 3 := by
    unfold vecFault
    split
    · split
      · exact Or.inl rfl
      · exact Or.inr (Or.inr rfl)
    · exact Or.inr (Or.inl rfl)
  unfold writeFault
  split
  · split
    · split
      · rcases hv with h | h | h <;> rw [h] <;> rfl
      · rfl
    · rfl
  · rfl
theorem own_text {w : World} {c : Int} {s : ByteArray} {lo hi : Nat} (h : (Lit.int .i64 c).wf = true) : Lay.tTextResult.OwnIn w [.int .i64 c, .string s] ⟨c, s⟩ lo hi :=
  ⟨[], ⟨lies_TextResult.2 ⟨rfl, rfl, h⟩, by simp, by simp⟩, by simp⟩
def ToldT (w w' : World) (e : Ending) (y : DTextResult) : Prop := ∃ cs, e = .returned (.agg cs.toArray) ∧ Lay.tTextResult.OwnIn w' cs y w.heap.size w'.heap.size ∧ Below w.heap.size w w'

end Go.Proofs.YtkmfkaljdngigaaGreatDoor

namespace Go.Proofs.YtkmfkaljdngigaaGreatDoor
open Go.RowKit

set_option maxRecDepth 100000 in
set_option maxHeartbeats 4000000 in
theorem implWT_put (a2 : Option Addr) (d2 : Nat) (x : DWrite) (w : World) (h : IsInts w (.slice a2 x.vec.length d2) x.vec) (hf : writeFault x.kind x.id x.vec x.session x.seq = 0) (hk : x.kind = 1) (ht : Tab w) :
    Calls Tryz.prog 63 #[.agg #[.int .i64 x.kind, .int .i64 x.id, .slice a2 x.vec.length d2, .int .i64 x.session, .int .i64 x.seq]] w fun e w' => ToldT w w' e (wtextR x) := by
  obtain ⟨hi, hs, hq, hkk⟩ := writeFault_zero hf
  have LS : Hid (∀ W, Tab W → Calls Tryz.prog 61 #[.int .i64 x.session] W fun e w' => e = .returned (str (dec x.session)) ∧ Below W.heap.size W w') := fun W h => decimalC _ W (by omega) (by omega) h
  have LQ : Hid (∀ W, Tab W → Calls Tryz.prog 61 #[.int .i64 x.seq] W fun e w' => e = .returned (str (dec x.seq)) ∧ Below W.heap.size W w') := fun W h => decimalC _ W (by omega) (by omega) h
  have LW : Hid (∀ W, Tab W → Calls Tryz.prog 86 #[deedV x.kind x.vec, .int .i64 x.id] W fun e w' => ToldWords W w' e [[112, 117, 116], dec x.id, vecText x.vec]) := fun W h => by
    have hv : vecFault x.vec = 0 := by rcases hkk with ⟨-, h⟩ | ⟨h, -⟩; exact h; omega
    rw [deedV, if_pos hk]
    have hl := (vecFault_zero hv).1
    obtain ⟨p, q, r, e⟩ : ∃ p q r, x.vec = [p, q, r] := by
      match hx : x.vec, hl with
      | [p, q, r], _ => exact ⟨p, q, r, rfl⟩
    rw [e] at hv ⊢
    exact words_put x.id p q r W hi hv h
  have l0 := dec_len x.id
  have l1 := dec_len x.session
  have l2 := dec_len x.seq
  have l3 := vecText_len x.vec
  have HE : Hid (wtextR x = ⟨0, ⟨(writeTail x.session x.seq (writeHead x.kind x.id x.vec)).toArray⟩⟩) := by
    show wtextR x = _
    rw [wtextR, writeText, if_pos hf, hf]
  have HH : Hid (writeTail x.session x.seq (writeHead x.kind x.id x.vec) = [112, 117, 116, 32] ++ dec x.id ++ [32] ++ vecText x.vec ++ [32, 98, 121, 32] ++ dec x.session ++ [32] ++ dec x.seq) := by
    show writeTail x.session x.seq (writeHead x.kind x.id x.vec) = _
    rw [writeTail, writeHead, if_pos hk]
  rw [unhide HH] at HE
  clear HH
  have B0 : Below w.heap.size w ((w.alloc (.cells #[.int .i64 x.kind, .int .i64 x.id, .slice a2 x.vec.length d2, .int .i64 x.session, .int .i64 x.seq] 27)).alloc (.cells #[.int .i64 0, .string ⟨#[]⟩] 40)) := ((Below.refl _ _).alloc (Nat.le_refl _) _).alloc (by simp) _
  have bA : Box w.heap.size #[.int .i64 x.kind, .int .i64 x.id, .slice a2 x.vec.length d2, .int .i64 x.session, .int .i64 x.seq] 27 ((w.alloc (.cells #[.int .i64 x.kind, .int .i64 x.id, .slice a2 x.vec.length d2, .int .i64 x.session, .int .i64 x.seq] 27)).alloc (.cells #[.int .i64 0, .string ⟨#[]⟩] 40)) w.heap.size := (newBox (Nat.le_refl _)).grow _
  have bR : Box w.heap.size #[.int .i64 0, .string ⟨#[]⟩] 40 ((w.alloc (.cells #[.int .i64 x.kind, .int .i64 x.id, .slice a2 x.vec.length d2, .int .i64 x.session, .int .i64 x.seq] 27)).alloc (.cells #[.int .i64 0, .string ⟨#[]⟩] 40)) (w.heap.size + 1) := newBoxAt (by omega) (by simp)
  have LD := hide (implDeed x.kind x.id _ x.session x.seq x.vec _ (h.later B0))
  have hd : deedRes x.kind x.id x.vec x.session x.seq = deedV x.kind x.vec := by rw [deedRes, if_pos hf]
  simp only [ToldDeed, hd, hf] at LD
  have HT := hide ht
  clear h ht hd hf hk hkk hi hs hq
  generalize deedV x.kind x.vec = dv at *
  simp only [str] at LS LQ
  generalize dec x.id = di at *
  generalize dec x.session = ds at *
  generalize dec x.seq = dq at *
  generalize vecText x.vec = vt at *
  go_enter Tryz.func63, Tryz.ntmps63
  go_wp2_with fail
  generalize (w.alloc (.cells #[.int .i64 x.kind, .int .i64 x.id, .slice a2 x.vec.length d2, .int .i64 x.session, .int .i64 x.seq] 27)).alloc (.cells #[.int .i64 0, .string ⟨#[]⟩] 40) = W0 at *
  refine (unhide LD).mono ?_
  rintro e W1 ⟨rfl, hb⟩
  replace bA := bA.keep hb
  replace bR := bR.keep hb
  have HB1 := hide (B0.trans (hb.mono B0.size))
  have hA := bA.lt
  have hR := bR.lt
  have c0 := bA.at 0 _ rfl
  have c1 := bA.at 1 _ rfl
  have c3 := bA.at 3 _ rfl
  have c4 := bA.at 4 _ rfl
  have HR := hide bR
  clear hb B0 LD bA bR
  simp only [List.getElem_toArray, List.getElem_cons_zero, List.getElem_cons_succ] at c0 c1 c3 c4
  go_wp2_with fail
  refine wp_region_noPanic ?_
  refine wp_region_held_drew (S := fun w' => Below W1.heap.size W1 w') (by kernel_rfl) (Below.refl _ _).drew (fun hHeld => ?_)
  have hDz0 : W1.heap.size ≤ W1.drew.heap.size := Nat.le_refl _
  generalize W1.drew = wD at hHeld hDz0 ⊢
  have hDz : W1.heap.size ≤ wD.heap.size := hDz0
  refine wpAnyH_take (i := 0) (oi := { dst := some 15, op := Go.Op.move (Go.Operand.tmp 3), type := 120, pos := "l03_write.go:156", after := #[], guard := none }) (v := ?v0) rfl (by kernel_rfl) (by kernel_rfl) (by kernel_rfl) (fun _ _ _ h => h) (Or.inl ⟨by rfl, ?h0⟩) hHeld ?r0
  case h0 =>
    intro wS hSw
    (try dsimp only at hSw)
    go_simp
    try with_reducible rfl
  case r0 =>
  simp only [Act.put, List.setIfInBounds_toArray, List.set_cons_zero, List.set_cons_succ]
  refine wpAnyH_take (i := 1) (oi := { dst := some 16, op := Go.Op.fieldAddr 27 (Go.Operand.tmp 1) 1, type := 0, pos := "l03_write.go:156", after := #[], guard := none }) (v := ?v1) rfl (by kernel_rfl) (by kernel_rfl) (by kernel_rfl) (fun _ _ _ h => h) (Or.inl ⟨by rfl, ?h1⟩) hHeld ?r1
  case h1 =>
    intro wS hSw
    (try dsimp only at hSw)
    go_simp
    try with_reducible rfl
  case r1 =>
  simp only [Act.put, List.setIfInBounds_toArray, List.set_cons_zero, List.set_cons_succ]
  refine wpAnyH_take (i := 2) (oi := { dst := some 17, op := Go.Op.load 2 (Go.Operand.tmp 16), type := 2, pos := "l03_write.go:156", after := #[{ on := 1, ground := Go.Ground.data }], guard := none }) (v := ?v2) rfl (by kernel_rfl) (by kernel_rfl) (by kernel_rfl) (fun _ _ _ h => h) (Or.inl ⟨by rfl, ?h2⟩) hHeld ?r2
  case h2 =>
    intro wS hSw
    have y0 := (hSw.cell (p := ⟨w.heap.size, 0, none⟩) hA).trans c0
    have y1 := (hSw.cell (p := ⟨w.heap.size, 1, none⟩) hA).trans c1
    have y3 := (hSw.cell (p := ⟨w.heap.size, 3, none⟩) hA).trans c3
    have y4 := (hSw.cell (p := ⟨w.heap.size, 4, none⟩) hA).trans c4
    clear hSw
    (try dsimp only at hSw)
    go_simp
    try with_reducible rfl
  case r2 =>
  simp only [Act.put, List.setIfInBounds_toArray, List.set_cons_zero, List.set_cons_succ]
  refine wpAnyH_take (i := 4) (oi := { dst := some 19, op := Go.Op.fieldAddr 27 (Go.Operand.tmp 1) 3, type := 0, pos := "l03_write.go:156", after := #[], guard := none }) (v := ?v4) rfl (by kernel_rfl) (by kernel_rfl) (by kernel_rfl) (fun _ _ _ h => h) (Or.inl ⟨by rfl, ?h4⟩) hHeld ?r4
  case h4 =>
    intro wS hSw
    (try dsimp only at hSw)
    go_simp
    try with_reducible rfl
  case r4 =>
  simp only [Act.put, List.setIfInBounds_toArray, List.set_cons_zero, List.set_cons_succ]
  refine wpAnyH_take (i := 5) (oi := { dst := some 20, op := Go.Op.load 2 (Go.Operand.tmp 19), type := 2, pos := "l03_write.go:156", after := #[{ on := 4, ground := Go.Ground.data }], guard := none }) (v := ?v5) rfl (by kernel_rfl) (by kernel_rfl) (by kernel_rfl) (fun _ _ _ h => h) (Or.inl ⟨by rfl, ?h5⟩) hHeld ?r5
  case h5 =>
    intro wS hSw
    have y0 := (hSw.cell (p := ⟨w.heap.size, 0, none⟩) hA).trans c0
    have y1 := (hSw.cell (p := ⟨w.heap.size, 1, none⟩) hA).trans c1
    have y3 := (hSw.cell (p := ⟨w.heap.size, 3, none⟩) hA).trans c3
    have y4 := (hSw.cell (p := ⟨w.heap.size, 4, none⟩) hA).trans c4
    clear hSw
    (try dsimp only at hSw)
    go_simp
    try with_reducible rfl
  case r5 =>
  simp only [Act.put, List.setIfInBounds_toArray, List.set_cons_zero, List.set_cons_succ]
  refine wpAnyH_take (i := 7) (oi := { dst := some 22, op := Go.Op.fieldAddr 27 (Go.Operand.tmp 1) 4, type := 0, pos := "l03_write.go:156", after := #[], guard := none }) (v := ?v7) rfl (by kernel_rfl) (by kernel_rfl) (by kernel_rfl) (fun _ _ _ h => h) (Or.inl ⟨by rfl, ?h7⟩) hHeld ?r7
  case h7 =>
    intro wS hSw
    (try dsimp only at hSw)
    go_simp
    try with_reducible rfl
  case r7 =>
  simp only [Act.put, List.setIfInBounds_toArray, List.set_cons_zero, List.set_cons_succ]
  refine wpAnyH_take (i := 8) (oi := { dst := some 23, op := Go.Op.load 2 (Go.Operand.tmp 22), type := 2, pos := "l03_write.go:156", after := #[{ on := 7, ground := Go.Ground.data }], guard := none }) (v := ?v8) rfl (by kernel_rfl) (by kernel_rfl) (by kernel_rfl) (fun _ _ _ h => h) (Or.inl ⟨by rfl, ?h8⟩) hHeld ?r8
  case h8 =>
    intro wS hSw
    have y0 := (hSw.cell (p := ⟨w.heap.size, 0, none⟩) hA).trans c0
    have y1 := (hSw.cell (p := ⟨w.heap.size, 1, none⟩) hA).trans c1
    have y3 := (hSw.cell (p := ⟨w.heap.size, 3, none⟩) hA).trans c3
    have y4 := (hSw.cell (p := ⟨w.heap.size, 4, none⟩) hA).trans c4
    clear hSw
    (try dsimp only at hSw)
    go_simp
    try with_reducible rfl
  case r8 =>
  simp only [Act.put, List.setIfInBounds_toArray, List.set_cons_zero, List.set_cons_succ]
  refine wpAnyH_ready (rs := [3]) (by kernel_rfl) (by simp) ?_
  refine AllReadyH.cons (o := { dst := some 18, op := Go.Op.call { callee := Go.Callee.value (Go.Operand.func 86), args := #[Go.Operand.tmp 15, Go.Operand.tmp 17], argTypes := #[120, 2] }, type := 61, pos := "l03_write.go:156", after := #[{ on := 0, ground := Go.Ground.data }, { on := 2, ground := Go.Ground.data }], guard := none }) rfl (fun K hK => ?_) AllReadyH.nil
  go_simp
  go_at_call 86
  refine (unhide LW _ ((unhide HT).later ((unhide HB1).trans (hHeld.mono (unhide HB1).size)))).mono ?_
  rintro e w3 ⟨g3, d3, rfl, O, hbw⟩
  have hz3 := hbw.size
  simp only [List.map_cons, List.map_nil, str, List.length_cons, List.length_nil, Nat.zero_add, Nat.reduceAdd] at O ⊢
  try go_wp2_with fail
  refine hK.out _ _ (hHeld.trans (hbw.mono hHeld.size)) (fun hHeld => ?_)
  clear hK K
  try simp only [Act.put, List.setIfInBounds_toArray, List.set_cons_zero, List.set_cons_succ]
  refine wpAnyH_ready (rs := [6]) (by kernel_rfl) (by simp) ?_
  refine AllReadyH.cons (o := { dst := some 21, op := Go.Op.call { callee := Go.Callee.value (Go.Operand.func 61), args := #[Go.Operand.tmp 20], argTypes := #[2] }, type := 9, pos := "l03_write.go:156", after := #[{ on := 5, ground := Go.Ground.data }, { on := 3, ground := Go.Ground.chain }], guard := none }) rfl (fun K hK => ?_) AllReadyH.nil
  go_simp
  go_at_call 61
  refine (unhide LS _ ((unhide HT).later ((unhide HB1).trans (hHeld.mono (unhide HB1).size)))).mono ?_
  rintro e w4 ⟨rfl, hbw⟩
  replace O := own_below O hbw
  have hz4 := hbw.size
  try go_wp2_with fail
  refine hK.out _ _ (hHeld.trans (hbw.mono hHeld.size)) (fun hHeld => ?_)
  clear hK K
  try simp only [Act.put, List.setIfInBounds_toArray, List.set_cons_zero, List.set_cons_succ]
  refine wpAnyH_ready (rs := [9]) (by kernel_rfl) (by simp) ?_
  refine AllReadyH.cons (o := { dst := some 24, op := Go.Op.call { callee := Go.Callee.value (Go.Operand.func 61), args := #[Go.Operand.tmp 23], argTypes := #[2] }, type := 9, pos := "l03_write.go:156", after := #[{ on := 8, ground := Go.Ground.data }, { on := 6, ground := Go.Ground.chain }], guard := none }) rfl (fun K hK => ?_) AllReadyH.nil
  go_simp
  go_at_call 61
  refine (unhide LQ _ ((unhide HT).later ((unhide HB1).trans (hHeld.mono (unhide HB1).size)))).mono ?_
  rintro e w5 ⟨rfl, hbw⟩
  replace O := own_below O hbw
  have hz5 := hbw.size
  try go_wp2_with fail
  refine hK.out _ _ (hHeld.trans (hbw.mono hHeld.size)) (fun hHeld => ?_)
  clear hK K
  try simp only [Act.put, List.setIfInBounds_toArray, List.set_cons_zero, List.set_cons_succ]
  refine wpAnyH_ready (rs := [10]) (by kernel_rfl) (by simp) ?_
  refine AllReadyH.cons (o := { dst := some 25, op := Go.Op.buildSlice 61 3 #[(0, Go.Operand.const (Go.Value.string { data := #[98, 121] })), (1, Go.Operand.tmp 21), (2, Go.Operand.tmp 24)], type := 61, pos := "l03_write.go:156", after := #[{ on := 6, ground := Go.Ground.data }, { on := 9, ground := Go.Ground.data }], guard := none }) rfl (fun K hK => ?_) AllReadyH.nil
  go_simp
  refine hK.out _ _ (hHeld.alloc hHeld.size _) (fun hHeld => ?_)
  clear hK K
  try simp only [Act.put, List.setIfInBounds_toArray, List.set_cons_zero, List.set_cons_succ]
  refine wpAnyH_ready (rs := [11]) (by kernel_rfl) (by simp) ?_
  refine AllReadyH.cons (o := { dst := some 26, op := Go.Op.call { callee := Go.Callee.builtin Go.Builtin.append, args := #[Go.Operand.tmp 18, Go.Operand.tmp 25], argTypes := #[61, 61] }, type := 61, pos := "l03_write.go:156", after := #[{ on := 3, ground := Go.Ground.data }, { on := 10, ground := Go.Ground.data }, { on := 9, ground := Go.Ground.chain }], guard := none }) rfl (fun K hK => ?_) AllReadyH.nil
  have O6 := own_below O ((Below.refl w5.heap.size w5).alloc (Nat.le_refl _) (.cells #[.string ⟨#[98, 121]⟩, .string ⟨ds.toArray⟩, .string ⟨dq.toArray⟩] 9))
  refine step_append_strs O6 [⟨#[98, 121]⟩, ⟨ds.toArray⟩, ⟨dq.toArray⟩] rfl _ _ rfl rfl 3 w5.heap.size rfl (heap_alloc_new w5 _) rfl (by omega) (by omega) (by simp; omega) ?_
  rintro g7 d7 w7 O7 hb7 hl7 hz7
  refine hK.out _ _ (hHeld.trans (hb7.mono (by have := hDz; omega))) (fun hHeld => ?_)
  clear hK K
  try simp only [Act.put, List.setIfInBounds_toArray, List.set_cons_zero, List.set_cons_succ]
  refine wpAnyH_take (i := 12) (oi := { dst := some 5, op := Go.Op.assign (Go.Operand.tmp 26), type := 61, pos := "l03_write.go:156", after := #[{ on := 11, ground := Go.Ground.data }, { on := 11, ground := Go.Ground.chain }, { on := 0, ground := Go.Ground.phase }, { on := 1, ground := Go.Ground.phase }, { on := 2, ground := Go.Ground.phase }, { on := 3, ground := Go.Ground.phase }, { on := 4, ground := Go.Ground.phase }, { on := 5, ground := Go.Ground.phase }, { on := 6, ground := Go.Ground.phase }, { on := 7, ground := Go.Ground.phase }, { on := 8, ground := Go.Ground.phase }, { on := 9, ground := Go.Ground.phase }, { on := 10, ground := Go.Ground.phase }, { on := 11, ground := Go.Ground.phase }], guard := none }) (v := ?v12) rfl (by kernel_rfl) (by kernel_rfl) (by kernel_rfl) (fun _ _ _ h => h) (Or.inl ⟨by rfl, ?h12⟩) hHeld ?r12
  case h12 =>
    intro wS hSw
    (try dsimp only at hSw)
    go_simp
    try with_reducible rfl
  case r12 =>
  simp only [Act.put, List.setIfInBounds_toArray, List.set_cons_zero, List.set_cons_succ]
  refine wpAnyH_done (by kernel_rfl) ?_ _
  refine NoPanic.normal ?_
  have HB7 := hide ((unhide HB1).trans (hHeld.mono (unhide HB1).size))
  have bR := (unhide HR).keep hHeld
  clear hHeld hb7 O O6 HR HB1 c0 c1 c3 c4
  have hcells : ∀ (j : Nat) s, ([⟨([112, 117, 116] : Bytes).toArray⟩, ⟨di.toArray⟩, ⟨vt.toArray⟩, ⟨([98, 121] : Bytes).toArray⟩, ⟨ds.toArray⟩, ⟨dq.toArray⟩] : List ByteArray)[j]? = some s → w7.cell? ⟨g7, 0 + j, none⟩ = some (.string s) := by
    intro j s hj
    have hj2 : j < 6 := by
      rcases Nat.lt_or_ge j 6 with h | h
      · exact h
      · rw [List.getElem?_eq_none (by simpa using h)] at hj; cases hj
    rw [Nat.zero_add, O7.cellAt j (by omega)]
    rcases j with _ | _ | _ | _ | _ | _ | j
    · simp at hj; subst hj; rfl
    · simp at hj; subst hj; rfl
    · simp at hj; subst hj; rfl
    · simp at hj; subst hj; rfl
    · simp at hj; subst hj; rfl
    · simp at hj; subst hj; rfl
    · omega
  have e : Lib.join (([⟨([112, 117, 116] : Bytes).toArray⟩, ⟨di.toArray⟩, ⟨vt.toArray⟩, ⟨([98, 121] : Bytes).toArray⟩, ⟨ds.toArray⟩, ⟨dq.toArray⟩] : List ByteArray).map fun x : ByteArray => x.data.toList) (⟨#[32]⟩ : ByteArray).data.toList = [112, 117, 116, 32] ++ di ++ [32] ++ vt ++ [32, 98, 121, 32] ++ ds ++ [32] ++ dq := by
    simp [Lib.join, List.intercalate]
  have hcap : 6 ≤ d7 := by
    rcases O7.2 with ⟨e, -⟩ | ⟨g9, c9, cur, e, -, -, hc, -⟩
    · simp at e
    · simp only [Value.slice.injEq] at e
      obtain ⟨-, -, rfl⟩ := e
      exact hc
  have LJ := hide (Tryz.strings_Join g7 0 d7 [⟨([112, 117, 116] : Bytes).toArray⟩, ⟨di.toArray⟩, ⟨vt.toArray⟩, ⟨([98, 121] : Bytes).toArray⟩, ⟨ds.toArray⟩, ⟨dq.toArray⟩] ⟨#[32]⟩ w7 hcells hl7 (by simp) hcap (by rw [e]; simp; omega))
  rw [e] at LJ
  clear hcells O7 e hcap
  generalize [112, 117, 116, 32] ++ di ++ [32] ++ vt ++ [32, 98, 121, 32] ++ ds ++ [32] ++ dq = t at *
  go_wp2_with fail
  refine (unhide LJ).mono ?_
  rintro e w8 ⟨rfl, hb⟩
  replace bR := bR.keep hb
  have r0 := bR.at 0 _ rfl
  have r1 := bR.at 1 _ rfl
  have rf := bR.soft
  have rl := bR.lt
  replace HB7 := hide ((unhide HB7).trans (hb.mono (unhide HB7).size))
  clear hb bR LJ
  simp only [List.getElem_toArray, List.getElem_cons_zero, List.getElem_cons_succ] at r0 r1
  go_wp2_with fail
  refine bodyPost_ret (v := .agg #[.int .i64 0, .string ⟨t.toArray⟩]) (by simp [results, Tryz.results63, go_sem, r0, r1]) rfl ?_
  rw [unhide HE]
  exact ⟨[.int .i64 0, .string ⟨t.toArray⟩], rfl, own_text rfl, below_setAll (unhide HB7) (w.heap.size + 1) 0 [.int .i64 0, .string ⟨t.toArray⟩] (by omega)⟩

set_option maxRecDepth 100000 in
set_option maxHeartbeats 4000000 in
theorem implWT_drop (a2 : Option Addr) (d2 : Nat) (x : DWrite) (w : World) (h : IsInts w (.slice a2 x.vec.length d2) x.vec) (hf : writeFault x.kind x.id x.vec x.session x.seq = 0) (hk : x.kind = 2) (ht : Tab w) :
    Calls Tryz.prog 63 #[.agg #[.int .i64 x.kind, .int .i64 x.id, .slice a2 x.vec.length d2, .int .i64 x.session, .int .i64 x.seq]] w fun e w' => ToldT w w' e (wtextR x) := by
  obtain ⟨hi, hs, hq, hkk⟩ := writeFault_zero hf
  have LS : Hid (∀ W, Tab W → Calls Tryz.prog 61 #[.int .i64 x.session] W fun e w' => e = .returned (str (dec x.session)) ∧ Below W.heap.size W w') := fun W h => decimalC _ W (by omega) (by omega) h
  have LQ : Hid (∀ W, Tab W → Calls Tryz.prog 61 #[.int .i64 x.seq] W fun e w' => e = .returned (str (dec x.seq)) ∧ Below W.heap.size W w') := fun W h => decimalC _ W (by omega) (by omega) h
  have LW : Hid (∀ W, Tab W → Calls Tryz.prog 86 #[deedV x.kind x.vec, .int .i64 x.id] W fun e w' => ToldWords W w' e [[100, 114, 111, 112], dec x.id]) := fun W h => by
    rw [deedV, if_neg (by omega)]
    exact words_drop x.id W hi h
  have l0 := dec_len x.id
  have l1 := dec_len x.session
  have l2 := dec_len x.seq
  have l3 := vecText_len x.vec
  have HE : Hid (wtextR x = ⟨0, ⟨(writeTail x.session x.seq (writeHead x.kind x.id x.vec)).toArray⟩⟩) := by
    show wtextR x = _
    rw [wtextR, writeText, if_pos hf, hf]
  have HH : Hid (writeTail x.session x.seq (writeHead x.kind x.id x.vec) = [100, 114, 111, 112, 32] ++ dec x.id ++ [32, 98, 121, 32] ++ dec x.session ++ [32] ++ dec x.seq) := by
    show writeTail x.session x.seq (writeHead x.kind x.id x.vec) = _
    rw [writeTail, writeHead, if_neg (by omega)]
  rw [unhide HH] at HE
  clear HH
  have B0 : Below w.heap.size w ((w.alloc (.cells #[.int .i64 x.kind, .int .i64 x.id, .slice a2 x.vec.length d2, .int .i64 x.session, .int .i64 x.seq] 27)).alloc (.cells #[.int .i64 0, .string ⟨#[]⟩] 40)) := ((Below.refl _ _).alloc (Nat.le_refl _) _).alloc (by simp) _
  have bA : Box w.heap.size #[.int .i64 x.kind, .int .i64 x.id, .slice a2 x.vec.length d2, .int .i64 x.session, .int .i64 x.seq] 27 ((w.alloc (.cells #[.int .i64 x.kind, .int .i64 x.id, .slice a2 x.vec.length d2, .int .i64 x.session, .int .i64 x.seq] 27)).alloc (.cells #[.int .i64 0, .string ⟨#[]⟩] 40)) w.heap.size := (newBox (Nat.le_refl _)).grow _
  have bR : Box w.heap.size #[.int .i64 0, .string ⟨#[]⟩] 40 ((w.alloc (.cells #[.int .i64 x.kind, .int .i64 x.id, .slice a2 x.vec.length d2, .int .i64 x.session, .int .i64 x.seq] 27)).alloc (.cells #[.int .i64 0, .string ⟨#[]⟩] 40)) (w.heap.size + 1) := newBoxAt (by omega) (by simp)
  have LD := hide (implDeed x.kind x.id _ x.session x.seq x.vec _ (h.later B0))
  have hd : deedRes x.kind x.id x.vec x.session x.seq = deedV x.kind x.vec := by rw [deedRes, if_pos hf]
  simp only [ToldDeed, hd, hf] at LD
  have HT := hide ht
  clear h ht hd hf hk hkk hi hs hq
  generalize deedV x.kind x.vec = dv at *
  simp only [str] at LS LQ
  generalize dec x.id = di at *
  generalize dec x.session = ds at *
  generalize dec x.seq = dq at *
  generalize vecText x.vec = vt at *
  go_enter Tryz.func63, Tryz.ntmps63
  go_wp2_with fail
  generalize (w.alloc (.cells #[.int .i64 x.kind, .int .i64 x.id, .slice a2 x.vec.length d2, .int .i64 x.session, .int .i64 x.seq] 27)).alloc (.cells #[.int .i64 0, .string ⟨#[]⟩] 40) = W0 at *
  refine (unhide LD).mono ?_
  rintro e W1 ⟨rfl, hb⟩
  replace bA := bA.keep hb
  replace bR := bR.keep hb
  have HB1 := hide (B0.trans (hb.mono B0.size))
  have hA := bA.lt
  have hR := bR.lt
  have c0 := bA.at 0 _ rfl
  have c1 := bA.at 1 _ rfl
  have c3 := bA.at 3 _ rfl
  have c4 := bA.at 4 _ rfl
  have HR := hide bR
  clear hb B0 LD bA bR
  simp only [List.getElem_toArray, List.getElem_cons_zero, List.getElem_cons_succ] at c0 c1 c3 c4
  go_wp2_with fail
  refine wp_region_noPanic ?_
  refine wp_region_held_drew (S := fun w' => Below W1.heap.size W1 w') (by kernel_rfl) (Below.refl _ _).drew (fun hHeld => ?_)
  have hDz0 : W1.heap.size ≤ W1.drew.heap.size := Nat.le_refl _
  generalize W1.drew = wD at hHeld hDz0 ⊢
  have hDz : W1.heap.size ≤ wD.heap.size := hDz0
  refine wpAnyH_take (i := 0) (oi := { dst := some 15, op := Go.Op.move (Go.Operand.tmp 3), type := 120, pos := "l03_write.go:156", after := #[], guard := none }) (v := ?v0) rfl (by kernel_rfl) (by kernel_rfl) (by kernel_rfl) (fun _ _ _ h => h) (Or.inl ⟨by rfl, ?h0⟩) hHeld ?r0
  case h0 =>
    intro wS hSw
    (try dsimp only at hSw)
    go_simp
    try with_reducible rfl
  case r0 =>
  simp only [Act.put, List.setIfInBounds_toArray, List.set_cons_zero, List.set_cons_succ]
  refine wpAnyH_take (i := 1) (oi := { dst := some 16, op := Go.Op.fieldAddr 27 (Go.Operand.tmp 1) 1, type := 0, pos := "l03_write.go:156", after := #[], guard := none }) (v := ?v1) rfl (by kernel_rfl) (by kernel_rfl) (by kernel_rfl) (fun _ _ _ h => h) (Or.inl ⟨by rfl, ?h1⟩) hHeld ?r1
  case h1 =>
    intro wS hSw
    (try dsimp only at hSw)
    go_simp
    try with_reducible rfl
  case r1 =>
  simp only [Act.put, List.setIfInBounds_toArray, List.set_cons_zero, List.set_cons_succ]
  refine wpAnyH_take (i := 2) (oi := { dst := some 17, op := Go.Op.load 2 (Go.Operand.tmp 16), type := 2, pos := "l03_write.go:156", after := #[{ on := 1, ground := Go.Ground.data }], guard := none }) (v := ?v2) rfl (by kernel_rfl) (by kernel_rfl) (by kernel_rfl) (fun _ _ _ h => h) (Or.inl ⟨by rfl, ?h2⟩) hHeld ?r2
  case h2 =>
    intro wS hSw
    have y0 := (hSw.cell (p := ⟨w.heap.size, 0, none⟩) hA).trans c0
    have y1 := (hSw.cell (p := ⟨w.heap.size, 1, none⟩) hA).trans c1
    have y3 := (hSw.cell (p := ⟨w.heap.size, 3, none⟩) hA).trans c3
    have y4 := (hSw.cell (p := ⟨w.heap.size, 4, none⟩) hA).trans c4
    clear hSw
    (try dsimp only at hSw)
    go_simp
    try with_reducible rfl
  case r2 =>
  simp only [Act.put, List.setIfInBounds_toArray, List.set_cons_zero, List.set_cons_succ]
  refine wpAnyH_take (i := 4) (oi := { dst := some 19, op := Go.Op.fieldAddr 27 (Go.Operand.tmp 1) 3, type := 0, pos := "l03_write.go:156", after := #[], guard := none }) (v := ?v4) rfl (by kernel_rfl) (by kernel_rfl) (by kernel_rfl) (fun _ _ _ h => h) (Or.inl ⟨by rfl, ?h4⟩) hHeld ?r4
  case h4 =>
    intro wS hSw
    (try dsimp only at hSw)
    go_simp
    try with_reducible rfl
  case r4 =>
  simp only [Act.put, List.setIfInBounds_toArray, List.set_cons_zero, List.set_cons_succ]
  refine wpAnyH_take (i := 5) (oi := { dst := some 20, op := Go.Op.load 2 (Go.Operand.tmp 19), type := 2, pos := "l03_write.go:156", after := #[{ on := 4, ground := Go.Ground.data }], guard := none }) (v := ?v5) rfl (by kernel_rfl) (by kernel_rfl) (by kernel_rfl) (fun _ _ _ h => h) (Or.inl ⟨by rfl, ?h5⟩) hHeld ?r5
  case h5 =>
    intro wS hSw
    have y0 := (hSw.cell (p := ⟨w.heap.size, 0, none⟩) hA).trans c0
    have y1 := (hSw.cell (p := ⟨w.heap.size, 1, none⟩) hA).trans c1
    have y3 := (hSw.cell (p := ⟨w.heap.size, 3, none⟩) hA).trans c3
    have y4 := (hSw.cell (p := ⟨w.heap.size, 4, none⟩) hA).trans c4
    clear hSw
    (try dsimp only at hSw)
    go_simp
    try with_reducible rfl
  case r5 =>
  simp only [Act.put, List.setIfInBounds_toArray, List.set_cons_zero, List.set_cons_succ]
  refine wpAnyH_take (i := 7) (oi := { dst := some 22, op := Go.Op.fieldAddr 27 (Go.Operand.tmp 1) 4, type := 0, pos := "l03_write.go:156", after := #[], guard := none }) (v := ?v7) rfl (by kernel_rfl) (by kernel_rfl) (by kernel_rfl) (fun _ _ _ h => h) (Or.inl ⟨by rfl, ?h7⟩) hHeld ?r7
  case h7 =>
    intro wS hSw
    (try dsimp only at hSw)
    go_simp
    try with_reducible rfl
  case r7 =>
  simp only [Act.put, List.setIfInBounds_toArray, List.set_cons_zero, List.set_cons_succ]
  refine wpAnyH_take (i := 8) (oi := { dst := some 23, op := Go.Op.load 2 (Go.Operand.tmp 22), type := 2, pos := "l03_write.go:156", after := #[{ on := 7, ground := Go.Ground.data }], guard := none }) (v := ?v8) rfl (by kernel_rfl) (by kernel_rfl) (by kernel_rfl) (fun _ _ _ h => h) (Or.inl ⟨by rfl, ?h8⟩) hHeld ?r8
  case h8 =>
    intro wS hSw
    have y0 := (hSw.cell (p := ⟨w.heap.size, 0, none⟩) hA).trans c0
    have y1 := (hSw.cell (p := ⟨w.heap.size, 1, none⟩) hA).trans c1
    have y3 := (hSw.cell (p := ⟨w.heap.size, 3, none⟩) hA).trans c3
    have y4 := (hSw.cell (p := ⟨w.heap.size, 4, none⟩) hA).trans c4
    clear hSw
    (try dsimp only at hSw)
    go_simp
    try with_reducible rfl
  case r8 =>
  simp only [Act.put, List.setIfInBounds_toArray, List.set_cons_zero, List.set_cons_succ]
  refine wpAnyH_ready (rs := [3]) (by kernel_rfl) (by simp) ?_
  refine AllReadyH.cons (o := { dst := some 18, op := Go.Op.call { callee := Go.Callee.value (Go.Operand.func 86), args := #[Go.Operand.tmp 15, Go.Operand.tmp 17], argTypes := #[120, 2] }, type := 61, pos := "l03_write.go:156", after := #[{ on := 0, ground := Go.Ground.data }, { on := 2, ground := Go.Ground.data }], guard := none }) rfl (fun K hK => ?_) AllReadyH.nil
  go_simp
  go_at_call 86
  refine (unhide LW _ ((unhide HT).later ((unhide HB1).trans (hHeld.mono (unhide HB1).size)))).mono ?_
  rintro e w3 ⟨g3, d3, rfl, O, hbw⟩
  have hz3 := hbw.size
  simp only [List.map_cons, List.map_nil, str, List.length_cons, List.length_nil, Nat.zero_add, Nat.reduceAdd] at O ⊢
  try go_wp2_with fail
  refine hK.out _ _ (hHeld.trans (hbw.mono hHeld.size)) (fun hHeld => ?_)
  clear hK K
  try simp only [Act.put, List.setIfInBounds_toArray, List.set_cons_zero, List.set_cons_succ]
  refine wpAnyH_ready (rs := [6]) (by kernel_rfl) (by simp) ?_
  refine AllReadyH.cons (o := { dst := some 21, op := Go.Op.call { callee := Go.Callee.value (Go.Operand.func 61), args := #[Go.Operand.tmp 20], argTypes := #[2] }, type := 9, pos := "l03_write.go:156", after := #[{ on := 5, ground := Go.Ground.data }, { on := 3, ground := Go.Ground.chain }], guard := none }) rfl (fun K hK => ?_) AllReadyH.nil
  go_simp
  go_at_call 61
  refine (unhide LS _ ((unhide HT).later ((unhide HB1).trans (hHeld.mono (unhide HB1).size)))).mono ?_
  rintro e w4 ⟨rfl, hbw⟩
  replace O := own_below O hbw
  have hz4 := hbw.size
  try go_wp2_with fail
  refine hK.out _ _ (hHeld.trans (hbw.mono hHeld.size)) (fun hHeld => ?_)
  clear hK K
  try simp only [Act.put, List.setIfInBounds_toArray, List.set_cons_zero, List.set_cons_succ]
  refine wpAnyH_ready (rs := [9]) (by kernel_rfl) (by simp) ?_
  refine AllReadyH.cons (o := { dst := some 24, op := Go.Op.call { callee := Go.Callee.value (Go.Operand.func 61), args := #[Go.Operand.tmp 23], argTypes := #[2] }, type := 9, pos := "l03_write.go:156", after := #[{ on := 8, ground := Go.Ground.data }, { on := 6, ground := Go.Ground.chain }], guard := none }) rfl (fun K hK => ?_) AllReadyH.nil
  go_simp
  go_at_call 61
  refine (unhide LQ _ ((unhide HT).later ((unhide HB1).trans (hHeld.mono (unhide HB1).size)))).mono ?_
  rintro e w5 ⟨rfl, hbw⟩
  replace O := own_below O hbw
  have hz5 := hbw.size
  try go_wp2_with fail
  refine hK.out _ _ (hHeld.trans (hbw.mono hHeld.size)) (fun hHeld => ?_)
  clear hK K
  try simp only [Act.put, List.setIfInBounds_toArray, List.set_cons_zero, List.set_cons_succ]
  refine wpAnyH_ready (rs := [10]) (by kernel_rfl) (by simp) ?_
  refine AllReadyH.cons (o := { dst := some 25, op := Go.Op.buildSlice 61 3 #[(0, Go.Operand.const (Go.Value.string { data := #[98, 121] })), (1, Go.Operand.tmp 21), (2, Go.Operand.tmp 24)], type := 61, pos := "l03_write.go:156", after := #[{ on := 6, ground := Go.Ground.data }, { on := 9, ground := Go.Ground.data }], guard := none }) rfl (fun K hK => ?_) AllReadyH.nil
  go_simp
  refine hK.out _ _ (hHeld.alloc hHeld.size _) (fun hHeld => ?_)
  clear hK K
  try simp only [Act.put, List.setIfInBounds_toArray, List.set_cons_zero, List.set_cons_succ]
  refine wpAnyH_ready (rs := [11]) (by kernel_rfl) (by simp) ?_
  refine AllReadyH.cons (o := { dst := some 26, op := Go.Op.call { callee := Go.Callee.builtin Go.Builtin.append, args := #[Go.Operand.tmp 18, Go.Operand.tmp 25], argTypes := #[61, 61] }, type := 61, pos := "l03_write.go:156", after := #[{ on := 3, ground := Go.Ground.data }, { on := 10, ground := Go.Ground.data }, { on := 9, ground := Go.Ground.chain }], guard := none }) rfl (fun K hK => ?_) AllReadyH.nil
  have O6 := own_below O ((Below.refl w5.heap.size w5).alloc (Nat.le_refl _) (.cells #[.string ⟨#[98, 121]⟩, .string ⟨ds.toArray⟩, .string ⟨dq.toArray⟩] 9))
  refine step_append_strs O6 [⟨#[98, 121]⟩, ⟨ds.toArray⟩, ⟨dq.toArray⟩] rfl _ _ rfl rfl 3 w5.heap.size rfl (heap_alloc_new w5 _) rfl (by omega) (by omega) (by simp; omega) ?_
  rintro g7 d7 w7 O7 hb7 hl7 hz7
  refine hK.out _ _ (hHeld.trans (hb7.mono (by have := hDz; omega))) (fun hHeld => ?_)
  clear hK K
  try simp only [Act.put, List.setIfInBounds_toArray, List.set_cons_zero, List.set_cons_succ]
  refine wpAnyH_take (i := 12) (oi := { dst := some 5, op := Go.Op.assign (Go.Operand.tmp 26), type := 61, pos := "l03_write.go:156", after := #[{ on := 11, ground := Go.Ground.data }, { on := 11, ground := Go.Ground.chain }, { on := 0, ground := Go.Ground.phase }, { on := 1, ground := Go.Ground.phase }, { on := 2, ground := Go.Ground.phase }, { on := 3, ground := Go.Ground.phase }, { on := 4, ground := Go.Ground.phase }, { on := 5, ground := Go.Ground.phase }, { on := 6, ground := Go.Ground.phase }, { on := 7, ground := Go.Ground.phase }, { on := 8, ground := Go.Ground.phase }, { on := 9, ground := Go.Ground.phase }, { on := 10, ground := Go.Ground.phase }, { on := 11, ground := Go.Ground.phase }], guard := none }) (v := ?v12) rfl (by kernel_rfl) (by kernel_rfl) (by kernel_rfl) (fun _ _ _ h => h) (Or.inl ⟨by rfl, ?h12⟩) hHeld ?r12
  case h12 =>
    intro wS hSw
    (try dsimp only at hSw)
    go_simp
    try with_reducible rfl
  case r12 =>
  simp only [Act.put, List.setIfInBounds_toArray, List.set_cons_zero, List.set_cons_succ]
  refine wpAnyH_done (by kernel_rfl) ?_ _
  refine NoPanic.normal ?_
  have HB7 := hide ((unhide HB1).trans (hHeld.mono (unhide HB1).size))
  have bR := (unhide HR).keep hHeld
  clear hHeld hb7 O O6 HR HB1 c0 c1 c3 c4
  have hcells : ∀ (j : Nat) s, ([⟨([100, 114, 111, 112] : Bytes).toArray⟩, ⟨di.toArray⟩, ⟨([98, 121] : Bytes).toArray⟩, ⟨ds.toArray⟩, ⟨dq.toArray⟩] : List ByteArray)[j]? = some s → w7.cell? ⟨g7, 0 + j, none⟩ = some (.string s) := by
    intro j s hj
    have hj2 : j < 5 := by
      rcases Nat.lt_or_ge j 5 with h | h
      · exact h
      · rw [List.getElem?_eq_none (by simpa using h)] at hj; cases hj
    rw [Nat.zero_add, O7.cellAt j (by omega)]
    rcases j with _ | _ | _ | _ | _ | j
    · simp at hj; subst hj; rfl
    · simp at hj; subst hj; rfl
    · simp at hj; subst hj; rfl
    · simp at hj; subst hj; rfl
    · simp at hj; subst hj; rfl
    · omega
  have e : Lib.join (([⟨([100, 114, 111, 112] : Bytes).toArray⟩, ⟨di.toArray⟩, ⟨([98, 121] : Bytes).toArray⟩, ⟨ds.toArray⟩, ⟨dq.toArray⟩] : List ByteArray).map fun x : ByteArray => x.data.toList) (⟨#[32]⟩ : ByteArray).data.toList = [100, 114, 111, 112, 32] ++ di ++ [32, 98, 121, 32] ++ ds ++ [32] ++ dq := by
    simp [Lib.join, List.intercalate]
  have hcap : 5 ≤ d7 := by
    rcases O7.2 with ⟨e, -⟩ | ⟨g9, c9, cur, e, -, -, hc, -⟩
    · simp at e
    · simp only [Value.slice.injEq] at e
      obtain ⟨-, -, rfl⟩ := e
      exact hc
  have LJ := hide (Tryz.strings_Join g7 0 d7 [⟨([100, 114, 111, 112] : Bytes).toArray⟩, ⟨di.toArray⟩, ⟨([98, 121] : Bytes).toArray⟩, ⟨ds.toArray⟩, ⟨dq.toArray⟩] ⟨#[32]⟩ w7 hcells hl7 (by simp) hcap (by rw [e]; simp; omega))
  rw [e] at LJ
  clear hcells O7 e hcap
  generalize [100, 114, 111, 112, 32] ++ di ++ [32, 98, 121, 32] ++ ds ++ [32] ++ dq = t at *
  go_wp2_with fail
  refine (unhide LJ).mono ?_
  rintro e w8 ⟨rfl, hb⟩
  replace bR := bR.keep hb
  have r0 := bR.at 0 _ rfl
  have r1 := bR.at 1 _ rfl
  have rf := bR.soft
  have rl := bR.lt
  replace HB7 := hide ((unhide HB7).trans (hb.mono (unhide HB7).size))
  clear hb bR LJ
  simp only [List.getElem_toArray, List.getElem_cons_zero, List.getElem_cons_succ] at r0 r1
  go_wp2_with fail
  refine bodyPost_ret (v := .agg #[.int .i64 0, .string ⟨t.toArray⟩]) (by simp [results, Tryz.results63, go_sem, r0, r1]) rfl ?_
  rw [unhide HE]
  exact ⟨[.int .i64 0, .string ⟨t.toArray⟩], rfl, own_text rfl, below_setAll (unhide HB7) (w.heap.size + 1) 0 [.int .i64 0, .string ⟨t.toArray⟩] (by omega)⟩

set_option maxRecDepth 10000 in
set_option maxHeartbeats 1000000 in
theorem implWT_bad (a2 : Option Addr) (d2 : Nat) (x : DWrite) (w : World) (h : IsInts w (.slice a2 x.vec.length d2) x.vec) (hf : writeFault x.kind x.id x.vec x.session x.seq ≠ 0) :
    Calls Tryz.prog 63 #[.agg #[.int .i64 x.kind, .int .i64 x.id, .slice a2 x.vec.length d2, .int .i64 x.session, .int .i64 x.seq]] w fun e w' => ToldT w w' e (wtextR x) := by
  have B0 : Below w.heap.size w ((w.alloc (.cells #[.int .i64 x.kind, .int .i64 x.id, .slice a2 x.vec.length d2, .int .i64 x.session, .int .i64 x.seq] 27)).alloc (.cells #[.int .i64 0, .string ⟨#[]⟩] 40)) := ((Below.refl _ _).alloc (Nat.le_refl _) _).alloc (by simp) _
  have bR : Box w.heap.size #[.int .i64 0, .string ⟨#[]⟩] 40 ((w.alloc (.cells #[.int .i64 x.kind, .int .i64 x.id, .slice a2 x.vec.length d2, .int .i64 x.session, .int .i64 x.seq] 27)).alloc (.cells #[.int .i64 0, .string ⟨#[]⟩] 40)) (w.heap.size + 1) := newBoxAt (by omega) (by simp)
  have LD := hide (implDeed x.kind x.id _ x.session x.seq x.vec _ (h.later B0))
  have hd : deedRes x.kind x.id x.vec x.session x.seq = .nilIface := by rw [deedRes, if_neg hf]
  simp only [ToldDeed, hd] at LD
  have HC := hide (fault_codes x.kind x.id x.vec x.session x.seq)
  have HE : Hid (wtextR x = ⟨writeFault x.kind x.id x.vec x.session x.seq, ⟨#[]⟩⟩) := by
    show wtextR x = _
    rw [wtextR, writeText, if_neg hf]
  have hne : (writeFault x.kind x.id x.vec x.session x.seq != 0) = true := by rw [bne_iff_ne]; exact hf
  clear h hd hf
  generalize writeFault x.kind x.id x.vec x.session x.seq = F at *
  go_enter Tryz.func63, Tryz.ntmps63
  go_wp2_with fail
  generalize (w.alloc (.cells #[.int .i64 x.kind, .int .i64 x.id, .slice a2 x.vec.length d2, .int .i64 x.session, .int .i64 x.seq] 27)).alloc (.cells #[.int .i64 0, .string ⟨#[]⟩] 40) = W0 at *
  refine (unhide LD).mono ?_
  rintro e w1 ⟨rfl, hb⟩
  replace bR := bR.keep hb
  have HB := hide (B0.trans (hb.mono B0.size))
  have r0 := bR.at 0 _ rfl
  have r1 := bR.at 1 _ rfl
  have rf := bR.soft
  have rl := bR.lt
  clear hb B0 LD bR
  simp only [List.getElem_toArray, List.getElem_cons_zero, List.getElem_cons_succ] at r0 r1
  go_wp2_with fail
  refine bodyPost_ret (v := .agg #[.int .i64 F, .string ⟨#[]⟩]) (by simp [results, Tryz.results63, go_sem, r0, r1]) rfl ?_
  rw [unhide HE]
  exact ⟨[.int .i64 F, .string ⟨#[]⟩], rfl, own_text (unhide HC), below_setAll (unhide HB) (w.heap.size + 1) 0 [.int .i64 F, .string ⟨#[]⟩] (by omega)⟩

/-- WriteText of the program. -/
theorem implWText (u : List Value) (x : DWrite) (w : World) (h : Lay.tWrite.Reads w u x) (ht : Tab w) :
    Calls Tryz.prog 63 #[.agg u.toArray] w fun e w' => ToldT w w' e (wtextR x) := by
  obtain ⟨a2, d2, rfl, R2⟩ := open_Write h
  have hI := Lay.ints_reads R2
  by_cases hf : writeFault x.kind x.id x.vec x.session x.seq = 0
  · obtain ⟨-, -, -, hk⟩ := writeFault_zero hf
    rcases hk with ⟨hk, -⟩ | ⟨hk, -⟩
    · exact implWT_put a2 d2 x w hI hf hk ht
    · exact implWT_drop a2 d2 x w hI hf hk ht
  · exact implWT_bad a2 d2 x w hI hf

end Go.Proofs.YtkmfkaljdngigaaGreatDoor

namespace Go.Proofs.YtkmfkaljdngigaaGreatDoor
open Go.RowKit

theorem join_consM (s a : Bytes) (l : List Bytes) : Lib.join (a :: l) s = a ++ l.flatMap fun z => s ++ z := by
  induction l generalizing a with
  | nil => simp [Lib.join, List.intercalate]
  | cons b l ih =>
    have e : Lib.join (a :: b :: l) s = a ++ (s ++ Lib.join (b :: l) s) := by simp [Lib.join, List.intercalate]
    rw [e, ih b, List.flatMap_cons]
    simp only [List.append_assoc]
def numsM (x : DMsg) : List Bytes := [dec x.epoch, dec x.src, dec x.dst, dec x.index]
def wordsM (x : DMsg) : List Bytes := if x.kind = 2 then [97, 99, 107] :: numsM x else [102, 111, 114, 119, 97, 114, 100] :: (numsM x ++ [wtext x.write])
def asTexts (l : List Bytes) : List ByteArray := l.map fun z => ⟨z.toArray⟩
theorem asTexts_len (l : List Bytes) : (asTexts l).length = l.length := by simp [asTexts]
theorem asTexts_data (l : List Bytes) : (asTexts l).map (·.data.toList) = l := by
  rw [asTexts, List.map_map]
  conv => rhs; rw [← List.map_id l]
  exact List.map_congr_left fun z _ => by simp
theorem wordsM_len (x : DMsg) : (wordsM x).length ≤ 6 ∧ 5 ≤ (wordsM x).length := by
  unfold wordsM numsM
  split <;> simp
theorem wordsM_join (x : DMsg) : Lib.join (wordsM x) [32] = textM x := by
  unfold wordsM textM
  split
  · rw [join_consM]; simp [numsM, restM]
  · rw [join_consM]; simp [numsM, restM]
theorem textM_few (x : DMsg) : (textM x).length ≤ 1000 := by
  have h1 := restM_len x
  have h2 := wtext_len x.write
  unfold textM
  split
  · simp; omega
  · simp; omega
end Go.Proofs.YtkmfkaljdngigaaGreatDoor

namespace Go.Proofs.YtkmfkaljdngigaaGreatDoor
open Go.RowKit

theorem append_noneL {P : Program} (t ty e : TypeId) (i : TypeInfo) (ht : P.underlying t = some (.slice e)) (hi : P.info? e = some i) (bo : Option Addr) (n cap c : Nat) (hn : n ≤ cap) (w : World) :
    (Builtin.append_ #[t, t] ty #[.slice bo n cap, .slice none 0 c]).run P w = (Builtin.append_ #[t, t] ty #[.slice bo n cap, .slice (some ⟨0, 0, none⟩) 0 c]).run P w := by
  simp [Builtin.append_, run_underlying ht, sizeOf, typeInfo, hi, Builtin.lenOf, hn, Builtin.firstCells, loadCells, loadCellsFrom]
theorem flat_lenL {n : Nat} : ∀ {rows : List (List Value)}, (∀ r ∈ rows, r.length = n) → rows.flatten.length = rows.length * n
  | [], _ => by simp
  | r :: rows, h => by
    rw [List.flatten_cons, List.length_append, h r (by simp), flat_lenL (fun q hq => h q (List.mem_cons_of_mem _ hq)), List.length_cons, Nat.add_mul]
    omega
theorem addr_add (b off j : Nat) : (⟨b, off, none⟩ : Addr).add j = ⟨b, off + j, none⟩ := by unfold Addr.add; split <;> simp_all
/-- What a slice of data holds, cell by cell. -/
theorem news_rows {α : Type} {A : Lay α} {w : World} {b off : Nat} {ys : List α} {rows : List (List Value)} {bls : List (List Nat)} (hn : 0 < A.n) (h : A.Rows w b off ys rows bls) :
    rows.flatten.length = ys.length * A.n ∧ ∀ j u, rows.flatten[j]? = some u → w.cell? ((⟨b, off, none⟩ : Addr).add j) = some u := by
  obtain ⟨h1, h2, h3⟩ := h
  have hl : ∀ r ∈ rows, r.length = A.n := fun r hr => by
    obtain ⟨j, hj, rfl⟩ := List.getElem_of_mem hr
    exact A.len (h3 j (by omega) hj (by omega)).2
  have hf := flat_lenL hl
  refine ⟨by rw [hf, h1], fun j u hu => ?_⟩
  have hj : j < rows.flatten.length := by
    rcases Nat.lt_or_ge j rows.flatten.length with hq | hq
    · exact hq
    · rw [List.getElem?_eq_none hq] at hu; simp at hu
  have hm : j % A.n < A.n := Nat.mod_lt _ hn
  have hd : j / A.n < rows.length := by
    rw [hf] at hj
    exact Nat.div_lt_of_lt_mul (by rw [Nat.mul_comm]; exact hj)
  have hjm : j / A.n * A.n + j % A.n = j := by rw [Nat.mul_comm]; exact Nat.div_add_mod j A.n
  have e1 := Lay.flat_at hl (j / A.n) (j % A.n) hd hm
  rw [hjm, hu] at e1
  have e2 := (h3 (j / A.n) (by omega) hd (by omega)).1 (j % A.n) hm
  rw [addr_add, ← hjm, ← Nat.add_assoc, e2, ← e1]

theorem Grow.more {α : Type} {A : Lay α} {P : Program} {w : World} {base e : Nat} {v : Value} {rows : List (List Value)} {xs : List α} {bls : List (List Nat)} (hG : Grow A w base e v rows xs bls)
    (hone : ∀ {w : World} {row : List Value} {x : α} {bl : List Nat}, A.lies w row x bl → ∀ u ∈ row, u.oneCell' = true) (hn0 : 0 < A.n)
    (t ty : TypeId) (i : TypeInfo) (z : Value) (bytes : Nat) (ht : P.underlying t = some (.slice e)) (hi : P.info? e = some i) (hz : i.zero = some z) (hsize : i.size = A.n) (hby : i.bytes = bytes) (hzs : z.cells.size = A.n)
    {X : Value} {ys : List α} (hX : (Lay.sl A).LiesIn w [X] ys 0 base) (hn : xs.length + ys.length ≤ 100000000) (hbytes : bytes ≤ 1000) (hbase : base ≤ w.heap.size) :
    ∃ v' w' rows' bls', (Builtin.append_ #[t, t] ty #[v, X]).run P w = .ok v' w' ∧ Grow A w' base e v' rows' (xs ++ ys) bls' ∧ w.grownBy w' v.ownBlock ∧ (v'.ownBlock = v.ownBlock ∨ v'.ownBlock = some w.heap.size) := by
  have hml : xs.length + ys.length ≤ maxLen := by unfold maxLen; omega
  have hbb : (xs.length + ys.length) * bytes ≤ 140737488355328 := by have := Nat.mul_le_mul hn hbytes; omega
  have hown := hG.own
  obtain ⟨bl, ⟨ao, cap, hv, hcap, hcase⟩, hlt⟩ := hX
  obtain rfl : X = .slice ao ys.length cap := by simpa using hv
  rcases hcase with ⟨rfl, rfl⟩ | ⟨b, off, rowsY, blsY, rfl, hb, rfl, hR⟩
  · have key : ∃ v' w', (Builtin.append_ #[t, t] ty #[v, .slice ao 0 cap]).run P w = .ok v' w' ∧ w'.ownsRow base e A.n v' (xs.length + 0) (rows.flatten ++ []) ∧ w.grownBy w' v.ownBlock ∧ (v'.ownBlock = v.ownBlock ∨ v'.ownBlock = some w.heap.size) := by
      cases ao with
      | none =>
        obtain ⟨v', w', r1, r2, r3, -, r5⟩ := run_append_own_at (P := P) w base t ty e i z A.n bytes ht hi hz hsize hby hzs hn0 v xs.length rows.flatten hown ⟨0, 0, none⟩ 0 cap [] (by simp) (by simp) (by simp) hml hbb hbase
        refine ⟨v', w', ?_, r2, r3, r5⟩
        rcases hown.2 with ⟨rfl, h0⟩ | ⟨g, cp, cur, rfl, _, _, hle, _⟩
        · exact (append_noneL _ _ _ i ht hi none 0 0 cap (Nat.le_refl _) w).trans r1
        · exact (append_noneL _ _ _ i ht hi _ _ cp cap hle w).trans r1
      | some ad =>
        obtain ⟨v', w', r1, r2, r3, -, r5⟩ := run_append_own_at (P := P) w base t ty e i z A.n bytes ht hi hz hsize hby hzs hn0 v xs.length rows.flatten hown ad 0 cap [] (by simp) (by simp) (by simp) hml hbb hbase
        exact ⟨v', w', r1, r2, r3, r5⟩
    obtain ⟨v', w', r1, r2, r3, r5⟩ := key
    refine ⟨v', w', rows, bls, r1, ?_, r3, r5⟩
    rw [List.append_nil] at r2 ⊢
    have hk : ∀ b ∈ bls.flatten, w'.heap[b]? = w.heap[b]? := fun b hm => r3.block b (hG.sub_lt b hm) (fun e => hG.off b hm e.symm)
    refine ⟨r2, hG.nrows, hG.nbls, fun j h1 h2 h3 => A.keep (hG.lies j h1 h2 h3) fun b hb => hk b (List.mem_flatten.2 ⟨_, List.getElem_mem _, hb⟩), fun b hm e => ?_⟩
    rcases r5 with r5 | r5
    · exact hG.off b hm (r5.symm.trans e)
    · rw [r5] at e
      have := hG.sub_lt b hm
      have := Option.some.inj e
      omega
  · obtain ⟨hfl, hnews⟩ := news_rows hn0 hR
    have hR2 := hR
    obtain ⟨q1, q2, q3⟩ := hR2
    obtain ⟨v', w', r1, r2, r3, -, r5⟩ := run_append_own_at (P := P) w base t ty e i z A.n bytes ht hi hz hsize hby hzs hn0 v xs.length rows.flatten hown ⟨b, off, none⟩ ys.length cap rowsY.flatten hfl hnews (fun u hu => by
      obtain ⟨r, hr, hur⟩ := List.mem_flatten.1 hu
      obtain ⟨j, hj, rfl⟩ := List.getElem_of_mem hr
      exact hone (q3 j (by omega) hj (by omega)).2 u hur) hml hbb hbase
    have hkX : ∀ c ∈ blsY.flatten, c < base := fun c hc => (hlt c (List.mem_cons_of_mem _ hc)).2
    have hk : ∀ b ∈ bls.flatten, w'.heap[b]? = w.heap[b]? := fun b hm => r3.block b (hG.sub_lt b hm) (fun e => hG.off b hm e.symm)
    have hk2 : ∀ c ∈ blsY.flatten, w'.heap[c]? = w.heap[c]? := fun c hm => r3.block c (by have := hkX c hm; omega) (fun e => by
      have := (hown.lt c e.symm).1
      have := hkX c hm
      omega)
    refine ⟨v', w', rows ++ rowsY, bls ++ blsY, r1, ⟨?_, by simp [hG.nrows, q1], by simp [hG.nbls, q2], fun j h1 h2 h3 => ?_, ?_⟩, r3, r5⟩
    · rw [List.flatten_append, List.length_append]
      exact r2
    · by_cases hj : j < xs.length
      · have ee := hG.lies j hj (by have := hG.nrows; omega) (by have := hG.nbls; omega)
        rw [List.getElem_append_left (by have := hG.nrows; omega), List.getElem_append_left hj, List.getElem_append_left (by have := hG.nbls; omega)]
        exact A.keep ee fun b hm => hk b (List.mem_flatten.2 ⟨_, List.getElem_mem _, hm⟩)
      · have n1 := hG.nrows
        have n2 := hG.nbls
        have n3 : j - xs.length < ys.length := by simp at h1; omega
        rw [List.getElem_append_right (by omega), List.getElem_append_right (by omega), List.getElem_append_right (by omega)]
        have ee := (q3 (j - xs.length) n3 (by omega) (by omega)).2
        simp only [n1, n2]
        exact A.keep ee fun b hm => hk2 b (List.mem_flatten.2 ⟨_, List.getElem_mem _, hm⟩)
    · intro c hm ee
      rw [List.flatten_append] at hm
      rcases r5 with r5 | r5
      · rcases List.mem_append.1 hm with hm | hm
        · exact hG.off c hm (r5.symm.trans ee)
        · have := (hown.lt c (r5.symm.trans ee)).1
          have := hkX c hm
          omega
      · rw [r5] at ee
        have := Option.some.inj ee
        rcases List.mem_append.1 hm with hm | hm
        · have := hG.sub_lt c hm
          omega
        · have := hkX c hm
          omega
end Go.Proofs.YtkmfkaljdngigaaGreatDoor

namespace Go.Proofs.YtkmfkaljdngigaaGreatDoor
open Go.RowKit

theorem run_append_strsL {w : World} {base : Nat} {v : Value} {rows : List (List Value)} {xs : List ByteArray} {bls : List (List Nat)} (hG : Grow Lay.str w base 9 v rows xs bls) {X : Value} {ys : List ByteArray} (hX : (Lay.sl Lay.str).LiesIn w [X] ys 0 base) (hn : xs.length + ys.length ≤ 100000000) (hbase : base ≤ w.heap.size) (ty : TypeId) :
    ∃ v' w' rows' bls', (Builtin.append_ #[61, 61] ty #[v, X]).run Tryz.prog w = .ok v' w' ∧ Grow Lay.str w' base 9 v' rows' (xs ++ ys) bls' ∧ w.grownBy w' v.ownBlock ∧ (v'.ownBlock = v.ownBlock ∨ v'.ownBlock = some w.heap.size) := by
  obtain ⟨i0, hi0, hz0, hz1, hz2⟩ := info_parts infoS
  exact hG.more (fun {w row x bl} h u hu => by obtain ⟨rfl, -⟩ := h; rw [List.mem_singleton.1 hu]; rfl) (by decide) 61 ty i0 _ 16 Tryz.underlying61 hi0 hz0 hz1 hz2 rfl hX hn (by omega) hbase
/-- At an operation of a plain region. -/
theorem wpList_append_strsL {w : World} {base : Nat} {v : Value} {rows : List (List Value)} {xs : List ByteArray} {bls : List (List Nat)} (hG : Grow Lay.str w base 9 v rows xs bls) {X : Value} {ys : List ByteArray} (hX : (Lay.sl Lay.str).LiesIn w [X] ys 0 base) {ops : Array Oper} {rest : List Oper} {o : Oper} {a : Act} {Q : Exit → Act → World → Prop} (hgd : o.guard = none) (s y : Operand)
    (ho : o.op = .call { callee := .builtin .append, args := #[s, y], argTypes := #[61, 61] }) (hs : a.eval s = v) (hy : a.eval y = X) (hn : xs.length + ys.length ≤ 100000000) (hbase : base ≤ w.heap.size)
    (h : ∀ a' m' cap' w' rows' bls', Grow Lay.str w' base 9 (.slice a' m' cap') rows' (xs ++ ys) bls' → Below base w w' → m' = xs.length + ys.length → w.heap.size ≤ w'.heap.size → wpList Tryz.prog ops Q rest (a.put o.dst (.slice a' m' cap')) w') :
    wpList Tryz.prog ops Q (o :: rest) a w := by
  refine wpList_plain hgd fun K hK => ?_
  obtain ⟨v', w', rows', bls', hr, h2, h3, h4⟩ := run_append_strsL hG hX hn hbase o.type
  unfold Oper.wp execOp
  simp only [ho, resolve, invoke, builtin, Sem.run_bind, Sem.run_pure, Result.andThen_ok, List.map_toArray, List.map_cons, List.map_nil, hs, hy, hr]
  have hbw : Below base w w' := (Below.refl _ _).grown h3 hbase (fun j hj => (hG.own.lt j hj).1)
  rcases h2.form with ⟨rfl, h0⟩ | ⟨g, cap, rfl, hg, hgl, hcap⟩
  · refine hK _ _ (h _ _ _ w' rows' bls' h2 hbw ?_ hbw.size)
    have : (xs ++ ys).length = 0 := by rw [h0]; rfl
    rw [List.length_append] at this
    omega
  · exact hK _ _ (h _ _ _ w' rows' bls' h2 hbw (by rw [List.length_append]) hbw.size)
/-- A row of texts, cell by cell. -/
theorem strs_cells {w : World} {base : Nat} {v : Value} {rows : List (List Value)} {xs : List ByteArray} {bls : List (List Nat)} (hG : Grow Lay.str w base 9 v rows xs bls) : rows.flatten = xs.map Value.string := by
  have h1 := hG.nrows
  have h2 := hG.nbls
  have e : rows = xs.map fun x => [Value.string x] := by
    apply List.ext_getElem (by simp [h1])
    intro j q1 q2
    have := hG.lies j (by omega) q1 (by omega)
    rw [this.1]
    simp
  have key : ∀ l : List ByteArray, (l.map fun x => [Value.string x]).flatten = l.map Value.string := by
    intro l
    induction l with
    | nil => rfl
    | cons x l ih => rw [List.map_cons, List.flatten_cons, ih]; rfl
  rw [e, key]

theorem run_append_zeros_nilS (w : World) (k : Nat) (h0 : 0 < k) (hbig : k ≤ 100000000) (ty : TypeId) :
    ∃ G w1, (Builtin.append_ #[61, 3] ty #[.slice none 0 0, .int .i64 k]).run Tryz.prog w = .ok (.slice (some ⟨w.heap.size, 0, none⟩) k G) w1 ∧ k ≤ G ∧
      w1.ownsRow w.heap.size 9 1 (.slice (some ⟨w.heap.size, 0, none⟩) 0 G) 0 [] ∧ Below w.heap.size w w1 := by
  obtain ⟨i0, hi, hz0, hz1, hz2⟩ := info_parts infoS
  have hr := Lib.run_append_nil_zeros w 61 3 ty 9 i0 _ .i64 .i64 Tryz.underlying61 Tryz.underlying3 hi hz0 k h0 (by omega) (by omega) (by rw [hz2]; omega)
  have hge := grownCap_ge w k 0 9
  have hle := grownCap_le_maxLen w k 0 9 (by unfold maxLen; omega)
  generalize grownCap w k 0 9 = G at *
  have hzl : ∀ q, (Builtin.zeroCells (Value.string ⟨#[]⟩).cells q).size = q * 1 := fun q => by rw [size_zeroCells]; rfl
  refine ⟨G, _, hr, hge, ⟨rfl, .inr ⟨w.heap.size, G, _, rfl, Nat.le_refl _, heap_alloc_new w.drew _, Nat.zero_le _, hle, ?_, by simp⟩⟩, ?_⟩
  · rw [Array.size_append, hzl, hzl]
    omega
  · exact ((Below.refl _ _).drew).alloc (Nat.le_refl _) _

set_option maxRecDepth 100000 in
set_option maxHeartbeats 400000 in
theorem implGrowS (n : Nat) (w : World) (hn : n ≤ 100000000) :
    Calls Tryz.prog 84 #[.slice none 0 0, .int .i64 n] w fun e w' => ∃ r, e = .returned r ∧ w'.ownsRow w.heap.size 9 1 r 0 [] ∧ Below w.heap.size w w' := by
  have hneg : ¬ ((n : Int) < 0) := by omega
  by_cases h0 : n = 0
  · subst h0
    go_enter Tryz.func84, Tryz.ntmps84
    go_wp2_with fail
    go_ret
    exact ⟨_, rfl, World.ownsRow_nil _ _ _ _, Below.refl _ _⟩
  · obtain ⟨G, w1, hr, hG, O1, B1⟩ := run_append_zeros_nilS w n (by omega) hn 61
    have HO := hide O1
    have HB := hide B1
    have hpos : decide ((0 : Int) < (n : Int)) = true := by simp; omega
    clear O1 B1
    go_enter Tryz.func84, Tryz.ntmps84
    go_wp2_with (at_builtin; refine Lib.wpList_append_run _ rfl _ _ _ _ rfl _ _ rfl rfl _ _ hr ?_)
    go_ret
    exact ⟨_, rfl, unhide HO, unhide HB⟩

set_option maxRecDepth 100000 in
set_option maxHeartbeats 1000000 in
theorem implConcatS2 (vb : Nat) (u0 u1 : Value) (a b : List ByteArray) (w : World) (k0 : w.cell? ⟨vb, 0, none⟩ = some u0) (k1 : w.cell? ⟨vb, 1, none⟩ = some u1) (ha : (Lay.sl Lay.str).Reads w [u0] a) (hb : (Lay.sl Lay.str).Reads w [u1] b) (hna : a.length ≤ 1000) (hnb : b.length ≤ 1000) :
    Calls Tryz.prog 62 #[.slice (some ⟨vb, 0, none⟩) 2 2] w fun e w' => ∃ r, e = .returned r ∧ (∃ rows bls, Grow Lay.str w' w.heap.size 9 r rows (a ++ b) bls) ∧ Below w.heap.size w w' := by
  have HA0 := hide ha.liesIn
  have HA1 := hide hb.liesIn
  obtain ⟨a0, c0, rfl⟩ := open_sl ha
  obtain ⟨a1, c1, rfl⟩ := open_sl hb
  have HVB := hide (World.block_lt_of_cell? _ _ k0)
  have HK1 := hide k1
  have hn0 : ¬ ((a.length : Int) < 0) := by omega
  have hn1 : ¬ ((a.length : Int) + (b.length : Int) < 0) := by omega
  clear ha hb
  go_enter Tryz.func62, Tryz.ntmps62
  go_wp2_with fail
  refine wp_loop_rounds 3 ?_
  rw [rounds_succ]
  go_wp2_with fail
  rw [rounds_succ]
  go_wp2_with fail
  rw [rounds_succ]
  go_wp2_with fail
  have e1 : (a.length : Int) + (b.length : Int) = ((a.length + b.length : Nat) : Int) := by omega
  rw [e1]
  refine (implGrowS (a.length + b.length) _ (by omega)).mono ?_
  rintro e w1 ⟨r, rfl, O1, B1⟩
  obtain ⟨ag, cg, rfl⟩ := own_shape O1
  have hvb := unhide HVB
  replace k0 : w1.cell? ⟨vb, 0, none⟩ = some _ := (B1.cell (p := ⟨vb, 0, none⟩) hvb).trans k0
  replace k1 : w1.cell? ⟨vb, 1, none⟩ = some _ := (B1.cell (p := ⟨vb, 1, none⟩) hvb).trans k1
  have I1 := (unhide HA0).later B1
  have G1 : Grow Lay.str w1 w.heap.size 9 (.slice ag 0 cg) [] [] [] := Grow.nil O1
  have HB1 := hide B1
  have hs1 := B1.size
  have hm1 : ([] : List ByteArray).length + a.length ≤ 100000000 := by simp; omega
  clear B1 e1 O1 k1
  go_wp2_with fail
  refine wp_loop_rounds 3 ?_
  rw [rounds_succ]
  go_wp2_with (at_builtin; refine wpList_append_strsL G1 I1 rfl _ _ rfl rfl rfl hm1 hs1 ?_)
  intro x2 m2 y2 w2 rows2 bls2 G2 B2 q2 _
  have HB2 := hide ((unhide HB1).trans B2)
  have k1 : w2.cell? ⟨vb, 1, none⟩ = some (.slice a1 b.length c1) := ((unhide HB2).cell (p := ⟨vb, 1, none⟩) hvb).trans (unhide HK1)
  have I2 := (unhide HA1).later (unhide HB2)
  have hs2 := (unhide HB2).size
  have hm2 : (([] : List ByteArray) ++ a).length + b.length ≤ 100000000 := by simp; omega
  clear G1 I1 B2 k0 hs1 HB1 q2 hm1
  go_wp2_with fail
  rw [rounds_succ]
  go_wp2_with (at_builtin; refine wpList_append_strsL G2 I2 rfl _ _ rfl rfl rfl hm2 hs2 ?_)
  intro x9 m9 y9 w9 rows9 bls9 G9 B9 q9 _
  have HG9 := hide G9
  have HB9 := hide ((unhide HB2).trans B9)
  clear G2 I2 k1 B9 G9 HB2 q9
  go_wp2_with fail
  rw [rounds_succ]
  go_wp2_with fail
  go_ret
  exact ⟨_, rfl, ⟨rows9, bls9, unhide HG9⟩, unhide HB9⟩
set_option maxRecDepth 100000 in
set_option maxHeartbeats 1000000 in
theorem implConcatS3 (vb : Nat) (u0 u1 u2 : Value) (a b c : List ByteArray) (w : World) (k0 : w.cell? ⟨vb, 0, none⟩ = some u0) (k1 : w.cell? ⟨vb, 1, none⟩ = some u1) (k2 : w.cell? ⟨vb, 2, none⟩ = some u2) (ha : (Lay.sl Lay.str).Reads w [u0] a) (hb : (Lay.sl Lay.str).Reads w [u1] b) (hc : (Lay.sl Lay.str).Reads w [u2] c) (hna : a.length ≤ 1000) (hnb : b.length ≤ 1000) (hnc : c.length ≤ 1000) :
    Calls Tryz.prog 62 #[.slice (some ⟨vb, 0, none⟩) 3 3] w fun e w' => ∃ r, e = .returned r ∧ (∃ rows bls, Grow Lay.str w' w.heap.size 9 r rows (a ++ (b ++ c)) bls) ∧ Below w.heap.size w w' := by
  have HA0 := hide ha.liesIn
  have HA1 := hide hb.liesIn
  have HA2 := hide hc.liesIn
  obtain ⟨a0, c0, rfl⟩ := open_sl ha
  obtain ⟨a1, c1, rfl⟩ := open_sl hb
  obtain ⟨a2, c2, rfl⟩ := open_sl hc
  have HVB := hide (World.block_lt_of_cell? _ _ k0)
  have HK1 := hide k1
  have HK2 := hide k2
  have hn0 : ¬ ((a.length : Int) < 0) := by omega
  have hn1 : ¬ ((a.length : Int) + (b.length : Int) < 0) := by omega
  have hn2 : ¬ ((a.length : Int) + (b.length : Int) + (c.length : Int) < 0) := by omega
  clear ha hb hc
  go_enter Tryz.func62, Tryz.ntmps62
  go_wp2_with fail
  refine wp_loop_rounds 4 ?_
  rw [rounds_succ]
  go_wp2_with fail
  rw [rounds_succ]
  go_wp2_with fail
  rw [rounds_succ]
  go_wp2_with fail
  rw [rounds_succ]
  go_wp2_with fail
  have e1 : (a.length : Int) + (b.length : Int) + (c.length : Int) = ((a.length + b.length + c.length : Nat) : Int) := by omega
  rw [e1]
  refine (implGrowS (a.length + b.length + c.length) _ (by omega)).mono ?_
  rintro e w1 ⟨r, rfl, O1, B1⟩
  obtain ⟨ag, cg, rfl⟩ := own_shape O1
  have hvb := unhide HVB
  replace k0 : w1.cell? ⟨vb, 0, none⟩ = some _ := (B1.cell (p := ⟨vb, 0, none⟩) hvb).trans k0
  replace k1 : w1.cell? ⟨vb, 1, none⟩ = some _ := (B1.cell (p := ⟨vb, 1, none⟩) hvb).trans k1
  replace k2 : w1.cell? ⟨vb, 2, none⟩ = some _ := (B1.cell (p := ⟨vb, 2, none⟩) hvb).trans k2
  have I1 := (unhide HA0).later B1
  have G1 : Grow Lay.str w1 w.heap.size 9 (.slice ag 0 cg) [] [] [] := Grow.nil O1
  have HB1 := hide B1
  have hs1 := B1.size
  have hm1 : ([] : List ByteArray).length + a.length ≤ 100000000 := by simp; omega
  clear B1 e1 O1 k1 k2
  go_wp2_with fail
  refine wp_loop_rounds 4 ?_
  rw [rounds_succ]
  go_wp2_with (at_builtin; refine wpList_append_strsL G1 I1 rfl _ _ rfl rfl rfl hm1 hs1 ?_)
  intro x2 m2 y2 w2 rows2 bls2 G2 B2 q2 _
  have HB2 := hide ((unhide HB1).trans B2)
  have k1 : w2.cell? ⟨vb, 1, none⟩ = some (.slice a1 b.length c1) := ((unhide HB2).cell (p := ⟨vb, 1, none⟩) hvb).trans (unhide HK1)
  have I2 := (unhide HA1).later (unhide HB2)
  have hs2 := (unhide HB2).size
  have hm2 : (([] : List ByteArray) ++ a).length + b.length ≤ 100000000 := by simp; omega
  clear G1 I1 B2 k0 hs1 HB1 q2 hm1
  go_wp2_with fail
  rw [rounds_succ]
  go_wp2_with (at_builtin; refine wpList_append_strsL G2 I2 rfl _ _ rfl rfl rfl hm2 hs2 ?_)
  intro x3 m3 y3 w3 rows3 bls3 G3 B3 q3 _
  have HB3 := hide ((unhide HB2).trans B3)
  have k2 : w3.cell? ⟨vb, 2, none⟩ = some (.slice a2 c.length c2) := ((unhide HB3).cell (p := ⟨vb, 2, none⟩) hvb).trans (unhide HK2)
  have I3 := (unhide HA2).later (unhide HB3)
  have hs3 := (unhide HB3).size
  have hm3 : (([] : List ByteArray) ++ a ++ b).length + c.length ≤ 100000000 := by simp; omega
  clear G2 I2 B3 k1 hs2 HB2 q3 hm2
  go_wp2_with fail
  rw [rounds_succ]
  go_wp2_with (at_builtin; refine wpList_append_strsL G3 I3 rfl _ _ rfl rfl rfl hm3 hs3 ?_)
  intro x9 m9 y9 w9 rows9 bls9 G9 B9 q9 _
  have HG9 := hide G9
  have HB9 := hide ((unhide HB3).trans B9)
  clear G3 I3 k2 B9 G9 HB3 q9
  go_wp2_with fail
  rw [rounds_succ]
  go_wp2_with fail
  go_ret
  exact ⟨_, rfl, ⟨rows9, bls9, unhide HG9⟩, unhide HB9⟩
end Go.Proofs.YtkmfkaljdngigaaGreatDoor

namespace Go.Proofs.YtkmfkaljdngigaaGreatDoor
open Go.RowKit

/-- Words in new memory. -/
def WordsAt (ws : List ByteArray) (w w' : World) (e : Ending) : Prop := ∃ g cap, e = .returned (.slice (some ⟨g, 0, none⟩) ws.length cap) ∧ ws.length ≤ cap ∧ g < w'.heap.size ∧ w.heap.size < g ∧ ∀ (j : Nat) (y : ByteArray), ws[j]? = some y → w'.cell? ⟨g, 0 + j, none⟩ = some (.string y)
def WordsE (c : Int) (ws : List ByteArray) (w w' : World) (e : Ending) : Prop := (c = 0 → WordsAt ws w w' e) ∧ (c ≠ 0 → e = .panicked (wrongP c))
def WordsV (ws : List ByteArray) (w w' : World) (v : Value) : Prop := ∃ g cap, v = .slice (some ⟨g, 0, none⟩) ws.length cap ∧ ws.length ≤ cap ∧ g < w'.heap.size ∧ w.heap.size < g ∧ ∀ (j : Nat) (y : ByteArray), ws[j]? = some y → w'.cell? ⟨g, 0 + j, none⟩ = some (.string y)
theorem wordsE_of {w W w' : World} {r : Value} {rows : List (List Value)} {ws : List ByteArray} {bls : List (List Nat)} (hG : Grow Lay.str w' W.heap.size 9 r rows ws bls) (hp : 0 < ws.length) (hw : w.heap.size < W.heap.size) : WordsV ws w w' r := by
  have hc := strs_cells hG
  have hown := hG.own
  rw [hc] at hown
  rcases hG.form with ⟨-, h0⟩ | ⟨g, cap, rfl, hg, hgl, hcap⟩
  · rw [h0] at hp; simp at hp
  · refine ⟨g, cap, rfl, hcap, hgl, by omega, fun j y hy => ?_⟩
    have hj : j < ws.length := by
      rw [List.getElem?_eq_some_iff] at hy
      exact hy.1
    rw [Nat.zero_add, hown.cellAt j (by show j < ws.length * 1; omega), List.getElem?_map, hy]
    rfl
theorem strs_box {w : World} {g : Nat} {l : List ByteArray} (h : Box 0 (l.map Value.string).toArray 9 w g) (hn : l.length ≤ 1000) (n : Nat) (he : l.length = n) : (Lay.sl Lay.str).Reads w [.slice (some ⟨g, 0, none⟩) n n] l := by
  subst he
  refine ⟨g :: (List.replicate l.length ([] : List Nat)).flatten, ⟨_, l.length, rfl, ⟨Nat.le_refl _, by omega⟩, Or.inr ⟨g, 0, l.map fun z => [.string z], List.replicate l.length [], rfl, h.lt, rfl, by simp, by simp, fun j h1 h2 h3 => ⟨fun m hm => ?_, by simp [Lay.str]⟩⟩⟩⟩
  obtain rfl : m = 0 := by simp only [Lay.str] at hm; omega
  have := cell_of_row w g j _ _ _ h.2
  simp only [Lay.str, Nat.mul_one, Nat.zero_add, Nat.add_zero]
  rw [this]
  simp [h1]
set_option maxRecDepth 100000 in
set_option maxHeartbeats 4000000 in
theorem msgWordsC (cs : List Value) (x : DMsg) (w : World) (h : Lay.tMsg.Reads w cs x) (ht : Tab w) :
    Calls Tryz.prog 31 #[.agg cs.toArray] w fun e w' => ((msgFault x = 0 → ∃ v, e = .returned v ∧ WordsV (asTexts (wordsM x)) w w' v) ∧ (msgFault x ≠ 0 → e = .panicked (wrongP (msgFault x)))) ∧ Below w.heap.size w w' := by
  obtain ⟨a, d, rfl, R⟩ := open_Msg h
  have nb : Below w.heap.size w (w.alloc (.cells #[.int .i64 x.kind, .int .i64 x.epoch, .int .i64 x.src, .int .i64 x.dst, .int .i64 x.index, .int .i64 x.write.kind, .int .i64 x.write.id, .slice a x.write.vec.length d, .int .i64 x.write.session, .int .i64 x.write.seq] 29)) := (Below.refl _ _).alloc (Nat.le_refl _) _
  have hz1 : (w.alloc (.cells #[.int .i64 x.kind, .int .i64 x.epoch, .int .i64 x.src, .int .i64 x.dst, .int .i64 x.index, .int .i64 x.write.kind, .int .i64 x.write.id, .slice a x.write.vec.length d, .int .i64 x.write.session, .int .i64 x.write.seq] 29)).heap.size = w.heap.size + 1 := by simp
  have HR := hide (h.later nb)
  have HRW := hide (R.later nb)
  have HB := hide nb
  have HX : Hid (Box 0 #[.int .i64 x.kind, .int .i64 x.epoch, .int .i64 x.src, .int .i64 x.dst, .int .i64 x.index, .int .i64 x.write.kind, .int .i64 x.write.id, .slice a x.write.vec.length d, .int .i64 x.write.session, .int .i64 x.write.seq] 29 (w.alloc (.cells #[.int .i64 x.kind, .int .i64 x.epoch, .int .i64 x.src, .int .i64 x.dst, .int .i64 x.index, .int .i64 x.write.kind, .int .i64 x.write.id, .slice a x.write.vec.length d, .int .i64 x.write.session, .int .i64 x.write.seq] 29)) w.heap.size) := newBox (Nat.zero_le _)
  have HT := hide (ht.later nb)
  clear h R nb hz1 ht
  go_enter Tryz.func31, Tryz.ntmps31
  go_upto_region 1 with fail
  generalize w.alloc (.cells #[.int .i64 x.kind, .int .i64 x.epoch, .int .i64 x.src, .int .i64 x.dst, .int .i64 x.index, .int .i64 x.write.kind, .int .i64 x.write.id, .slice a x.write.vec.length d, .int .i64 x.write.session, .int .i64 x.write.seq] 29) = W0 at *
  have c0 : W0.cell? ⟨w.heap.size, 0, none⟩ = some (.int .i64 x.kind) := (unhide HX).at 0 _ rfl
  have c1 : W0.cell? ⟨w.heap.size, 1, none⟩ = some (.int .i64 x.epoch) := (unhide HX).at 1 _ rfl
  have c2 : W0.cell? ⟨w.heap.size, 2, none⟩ = some (.int .i64 x.src) := (unhide HX).at 2 _ rfl
  have c3 : W0.cell? ⟨w.heap.size, 3, none⟩ = some (.int .i64 x.dst) := (unhide HX).at 3 _ rfl
  have c4 : W0.cell? ⟨w.heap.size, 4, none⟩ = some (.int .i64 x.index) := (unhide HX).at 4 _ rfl
  have c5 : W0.cell? ⟨w.heap.size, 5, none⟩ = some (.int .i64 x.write.kind) := (unhide HX).at 5 _ rfl
  have c6 : W0.cell? ⟨w.heap.size, 6, none⟩ = some (.int .i64 x.write.id) := (unhide HX).at 6 _ rfl
  have c7 : W0.cell? ⟨w.heap.size, 7, none⟩ = some (.slice a x.write.vec.length d) := (unhide HX).at 7 _ rfl
  have c8 : W0.cell? ⟨w.heap.size, 8, none⟩ = some (.int .i64 x.write.session) := (unhide HX).at 8 _ rfl
  have c9 : W0.cell? ⟨w.heap.size, 9, none⟩ = some (.int .i64 x.write.seq) := (unhide HX).at 9 _ rfl
  have HL := hide (mustBeMsgC _ x W0 (unhide HR))
  go_wp2_with fail
  clear c0 c1 c2 c3 c4 c5 c6 c7 c8 c9
  refine (unhide HL).mono ?_
  rintro e W1 ⟨he, hb⟩
  replace HB := hide ((unhide HB).trans (hb.mono (unhide HB).size))
  replace HRW := hide ((unhide HRW).later hb)
  replace HX := hide ((unhide HX).keep hb)
  replace HT := hide ((unhide HT).later hb)
  clear hb HL HR
  by_cases hf : msgFault x = 0
  case neg =>
    rw [wrongE_bad hf] at he
    subst he
    have HF := hide hf
    clear hf
    go_wp2_with fail
    exact ⟨rfl, ⟨fun q => absurd q (unhide HF), fun _ => rfl⟩, unhide HB⟩
  case pos =>
  rw [wrongE_ok hf] at he
  subst he
  have ok := msgFault_ok hf
  have o1 := ok.epoch
  have o2 := ok.src
  have o3 := ok.dst
  have o4 := ok.index
  have HF := hide hf
  have HOK := hide ok
  clear ok hf
  have L1 : Hid (∀ W, Tab W → Calls Tryz.prog 61 #[.int .i64 x.epoch] W fun e w' => e = .returned (.string ⟨(dec x.epoch).toArray⟩) ∧ Below W.heap.size W w') := fun W h => decimalC _ W (by omega) (by omega) h
  have L2 : Hid (∀ W, Tab W → Calls Tryz.prog 61 #[.int .i64 x.src] W fun e w' => e = .returned (.string ⟨(dec x.src).toArray⟩) ∧ Below W.heap.size W w') := fun W h => decimalC _ W (by omega) (by omega) h
  have L3 : Hid (∀ W, Tab W → Calls Tryz.prog 61 #[.int .i64 x.dst] W fun e w' => e = .returned (.string ⟨(dec x.dst).toArray⟩) ∧ Below W.heap.size W w') := fun W h => decimalC _ W (by omega) (by omega) h
  have L4 : Hid (∀ W, Tab W → Calls Tryz.prog 61 #[.int .i64 x.index] W fun e w' => e = .returned (.string ⟨(dec x.index).toArray⟩) ∧ Below W.heap.size W w') := fun W h => decimalC _ W (by omega) (by omega) h
  have c0 : W1.cell? ⟨w.heap.size, 0, none⟩ = some (.int .i64 x.kind) := (unhide HX).at 0 _ rfl
  have c1 : W1.cell? ⟨w.heap.size, 1, none⟩ = some (.int .i64 x.epoch) := (unhide HX).at 1 _ rfl
  have c2 : W1.cell? ⟨w.heap.size, 2, none⟩ = some (.int .i64 x.src) := (unhide HX).at 2 _ rfl
  have c3 : W1.cell? ⟨w.heap.size, 3, none⟩ = some (.int .i64 x.dst) := (unhide HX).at 3 _ rfl
  have c4 : W1.cell? ⟨w.heap.size, 4, none⟩ = some (.int .i64 x.index) := (unhide HX).at 4 _ rfl
  have c5 : W1.cell? ⟨w.heap.size, 5, none⟩ = some (.int .i64 x.write.kind) := (unhide HX).at 5 _ rfl
  have c6 : W1.cell? ⟨w.heap.size, 6, none⟩ = some (.int .i64 x.write.id) := (unhide HX).at 6 _ rfl
  have c7 : W1.cell? ⟨w.heap.size, 7, none⟩ = some (.slice a x.write.vec.length d) := (unhide HX).at 7 _ rfl
  have c8 : W1.cell? ⟨w.heap.size, 8, none⟩ = some (.int .i64 x.write.session) := (unhide HX).at 8 _ rfl
  have c9 : W1.cell? ⟨w.heap.size, 9, none⟩ = some (.int .i64 x.write.seq) := (unhide HX).at 9 _ rfl
  have xl := (unhide HX).lt
  go_upto_region 2 with fail
  refine wp_region_noPanic ?_
  refine wp_region_held_drew (S := fun w' => Below W1.heap.size W1 w') (by kernel_rfl) (Below.refl _ _).drew (fun hHeld => ?_)
  generalize W1.drew = wD at hHeld ⊢
  refine wpAnyH_take (i := 0) (oi := { dst := some 6, op := Go.Op.fieldAddr 29 (Go.Operand.tmp 1) 1, type := 0, pos := "l11_net.go:134", after := #[], guard := none }) (v := ?vm0) rfl (by kernel_rfl) (by kernel_rfl) (by kernel_rfl) (fun _ _ _ h => h) (Or.inl ⟨by rfl, ?hm0⟩) hHeld ?rm0
  case hm0 =>
    intro wS hSw
    (try dsimp only at hSw)
    go_simp
    try with_reducible rfl
  case rm0 =>
  simp only [Act.put, List.setIfInBounds_toArray, List.set_cons_zero, List.set_cons_succ]
  refine wpAnyH_take (i := 1) (oi := { dst := some 7, op := Go.Op.load 2 (Go.Operand.tmp 6), type := 2, pos := "l11_net.go:134", after := #[{ on := 0, ground := Go.Ground.data }], guard := none }) (v := ?vm1) rfl (by kernel_rfl) (by kernel_rfl) (by kernel_rfl) (fun _ _ _ h => h) (Or.inl ⟨by rfl, ?hm1⟩) hHeld ?rm1
  case hm1 =>
    intro wS hSw
    have e1 : wS.cell? ⟨w.heap.size, 1, none⟩ = some (.int .i64 x.epoch) := (hSw.cell (p := ⟨w.heap.size, 1, none⟩) xl).trans c1
    clear hSw
    (try dsimp only at hSw)
    go_simp
    try with_reducible rfl
  case rm1 =>
  simp only [Act.put, List.setIfInBounds_toArray, List.set_cons_zero, List.set_cons_succ]
  refine wpAnyH_take (i := 3) (oi := { dst := some 9, op := Go.Op.fieldAddr 29 (Go.Operand.tmp 1) 2, type := 0, pos := "l11_net.go:134", after := #[], guard := none }) (v := ?vm3) rfl (by kernel_rfl) (by kernel_rfl) (by kernel_rfl) (fun _ _ _ h => h) (Or.inl ⟨by rfl, ?hm3⟩) hHeld ?rm3
  case hm3 =>
    intro wS hSw
    (try dsimp only at hSw)
    go_simp
    try with_reducible rfl
  case rm3 =>
  simp only [Act.put, List.setIfInBounds_toArray, List.set_cons_zero, List.set_cons_succ]
  refine wpAnyH_take (i := 4) (oi := { dst := some 10, op := Go.Op.load 2 (Go.Operand.tmp 9), type := 2, pos := "l11_net.go:134", after := #[{ on := 3, ground := Go.Ground.data }], guard := none }) (v := ?vm4) rfl (by kernel_rfl) (by kernel_rfl) (by kernel_rfl) (fun _ _ _ h => h) (Or.inl ⟨by rfl, ?hm4⟩) hHeld ?rm4
  case hm4 =>
    intro wS hSw
    have e2 : wS.cell? ⟨w.heap.size, 2, none⟩ = some (.int .i64 x.src) := (hSw.cell (p := ⟨w.heap.size, 2, none⟩) xl).trans c2
    clear hSw
    (try dsimp only at hSw)
    go_simp
    try with_reducible rfl
  case rm4 =>
  simp only [Act.put, List.setIfInBounds_toArray, List.set_cons_zero, List.set_cons_succ]
  refine wpAnyH_take (i := 6) (oi := { dst := some 12, op := Go.Op.fieldAddr 29 (Go.Operand.tmp 1) 3, type := 0, pos := "l11_net.go:134", after := #[], guard := none }) (v := ?vm6) rfl (by kernel_rfl) (by kernel_rfl) (by kernel_rfl) (fun _ _ _ h => h) (Or.inl ⟨by rfl, ?hm6⟩) hHeld ?rm6
  case hm6 =>
    intro wS hSw
    (try dsimp only at hSw)
    go_simp
    try with_reducible rfl
  case rm6 =>
  simp only [Act.put, List.setIfInBounds_toArray, List.set_cons_zero, List.set_cons_succ]
  refine wpAnyH_take (i := 7) (oi := { dst := some 13, op := Go.Op.load 2 (Go.Operand.tmp 12), type := 2, pos := "l11_net.go:134", after := #[{ on := 6, ground := Go.Ground.data }], guard := none }) (v := ?vm7) rfl (by kernel_rfl) (by kernel_rfl) (by kernel_rfl) (fun _ _ _ h => h) (Or.inl ⟨by rfl, ?hm7⟩) hHeld ?rm7
  case hm7 =>
    intro wS hSw
    have e3 : wS.cell? ⟨w.heap.size, 3, none⟩ = some (.int .i64 x.dst) := (hSw.cell (p := ⟨w.heap.size, 3, none⟩) xl).trans c3
    clear hSw
    (try dsimp only at hSw)
    go_simp
    try with_reducible rfl
  case rm7 =>
  simp only [Act.put, List.setIfInBounds_toArray, List.set_cons_zero, List.set_cons_succ]
  refine wpAnyH_take (i := 9) (oi := { dst := some 15, op := Go.Op.fieldAddr 29 (Go.Operand.tmp 1) 4, type := 0, pos := "l11_net.go:134", after := #[], guard := none }) (v := ?vm9) rfl (by kernel_rfl) (by kernel_rfl) (by kernel_rfl) (fun _ _ _ h => h) (Or.inl ⟨by rfl, ?hm9⟩) hHeld ?rm9
  case hm9 =>
    intro wS hSw
    (try dsimp only at hSw)
    go_simp
    try with_reducible rfl
  case rm9 =>
  simp only [Act.put, List.setIfInBounds_toArray, List.set_cons_zero, List.set_cons_succ]
  refine wpAnyH_take (i := 10) (oi := { dst := some 16, op := Go.Op.load 2 (Go.Operand.tmp 15), type := 2, pos := "l11_net.go:134", after := #[{ on := 9, ground := Go.Ground.data }], guard := none }) (v := ?vm10) rfl (by kernel_rfl) (by kernel_rfl) (by kernel_rfl) (fun _ _ _ h => h) (Or.inl ⟨by rfl, ?hm10⟩) hHeld ?rm10
  case hm10 =>
    intro wS hSw
    have e4 : wS.cell? ⟨w.heap.size, 4, none⟩ = some (.int .i64 x.index) := (hSw.cell (p := ⟨w.heap.size, 4, none⟩) xl).trans c4
    clear hSw
    (try dsimp only at hSw)
    go_simp
    try with_reducible rfl
  case rm10 =>
  simp only [Act.put, List.setIfInBounds_toArray, List.set_cons_zero, List.set_cons_succ]
  refine wpAnyH_ready (rs := [2]) (by kernel_rfl) (by simp) ?_
  refine AllReadyH.cons (o := { dst := some 8, op := Go.Op.call { callee := Go.Callee.value (Go.Operand.func 61), args := #[Go.Operand.tmp 7], argTypes := #[2] }, type := 9, pos := "l11_net.go:134", after := #[{ on := 1, ground := Go.Ground.data }], guard := none }) rfl (fun K hK => ?_) AllReadyH.nil
  go_simp
  go_at_call 61
  refine (unhide L1 _ ((unhide HT).later hHeld)).mono ?_
  rintro e w1 ⟨rfl, hb⟩
  have hS1 := hHeld.trans (hb.mono hHeld.size)
  clear hb
  try go_wp2_with fail
  refine hK.out _ _ hS1 (fun hHeld => ?_)
  clear hK K
  try simp only [Act.put, List.setIfInBounds_toArray, List.set_cons_zero, List.set_cons_succ]
  refine wpAnyH_ready (rs := [5]) (by kernel_rfl) (by simp) ?_
  refine AllReadyH.cons (o := { dst := some 11, op := Go.Op.call { callee := Go.Callee.value (Go.Operand.func 61), args := #[Go.Operand.tmp 10], argTypes := #[2] }, type := 9, pos := "l11_net.go:134", after := #[{ on := 4, ground := Go.Ground.data }, { on := 2, ground := Go.Ground.chain }], guard := none }) rfl (fun K hK => ?_) AllReadyH.nil
  go_simp
  go_at_call 61
  refine (unhide L2 _ ((unhide HT).later hHeld)).mono ?_
  rintro e w2 ⟨rfl, hb⟩
  have hS2 := hHeld.trans (hb.mono hHeld.size)
  clear hb
  try go_wp2_with fail
  refine hK.out _ _ hS2 (fun hHeld => ?_)
  clear hK K
  try simp only [Act.put, List.setIfInBounds_toArray, List.set_cons_zero, List.set_cons_succ]
  refine wpAnyH_ready (rs := [8]) (by kernel_rfl) (by simp) ?_
  refine AllReadyH.cons (o := { dst := some 14, op := Go.Op.call { callee := Go.Callee.value (Go.Operand.func 61), args := #[Go.Operand.tmp 13], argTypes := #[2] }, type := 9, pos := "l11_net.go:134", after := #[{ on := 7, ground := Go.Ground.data }, { on := 5, ground := Go.Ground.chain }], guard := none }) rfl (fun K hK => ?_) AllReadyH.nil
  go_simp
  go_at_call 61
  refine (unhide L3 _ ((unhide HT).later hHeld)).mono ?_
  rintro e w3 ⟨rfl, hb⟩
  have hS3 := hHeld.trans (hb.mono hHeld.size)
  clear hb
  try go_wp2_with fail
  refine hK.out _ _ hS3 (fun hHeld => ?_)
  clear hK K
  try simp only [Act.put, List.setIfInBounds_toArray, List.set_cons_zero, List.set_cons_succ]
  refine wpAnyH_ready (rs := [11]) (by kernel_rfl) (by simp) ?_
  refine AllReadyH.cons (o := { dst := some 17, op := Go.Op.call { callee := Go.Callee.value (Go.Operand.func 61), args := #[Go.Operand.tmp 16], argTypes := #[2] }, type := 9, pos := "l11_net.go:134", after := #[{ on := 10, ground := Go.Ground.data }, { on := 8, ground := Go.Ground.chain }], guard := none }) rfl (fun K hK => ?_) AllReadyH.nil
  go_simp
  go_at_call 61
  refine (unhide L4 _ ((unhide HT).later hHeld)).mono ?_
  rintro e w4 ⟨rfl, hb⟩
  have hS4 := hHeld.trans (hb.mono hHeld.size)
  clear hb
  try go_wp2_with fail
  refine hK.out _ _ hS4 (fun hHeld => ?_)
  clear hK K
  try simp only [Act.put, List.setIfInBounds_toArray, List.set_cons_zero, List.set_cons_succ]
  refine wpAnyH_ready (rs := [12]) (by kernel_rfl) (by simp) ?_
  refine AllReadyH.cons (o := { dst := some 18, op := Go.Op.buildSlice 61 4 #[(0, Go.Operand.tmp 8), (1, Go.Operand.tmp 11), (2, Go.Operand.tmp 14), (3, Go.Operand.tmp 17)], type := 61, pos := "l11_net.go:134", after := #[{ on := 2, ground := Go.Ground.data }, { on := 5, ground := Go.Ground.data }, { on := 8, ground := Go.Ground.data }, { on := 11, ground := Go.Ground.data }], guard := none }) rfl (fun K hK => ?_) AllReadyH.nil
  have b5 : Box 0 #[.string ⟨(dec x.epoch).toArray⟩, .string ⟨(dec x.src).toArray⟩, .string ⟨(dec x.dst).toArray⟩, .string ⟨(dec x.index).toArray⟩] 9 (w4.alloc (.cells #[.string ⟨(dec x.epoch).toArray⟩, .string ⟨(dec x.src).toArray⟩, .string ⟨(dec x.dst).toArray⟩, .string ⟨(dec x.index).toArray⟩] 9)) w4.heap.size := newBox (Nat.zero_le _)
  have nb5 : Below w4.heap.size w4 (w4.alloc (.cells #[.string ⟨(dec x.epoch).toArray⟩, .string ⟨(dec x.src).toArray⟩, .string ⟨(dec x.dst).toArray⟩, .string ⟨(dec x.index).toArray⟩] 9)) := (Below.refl _ _).alloc (Nat.le_refl _) _
  have hS5 := hHeld.trans (nb5.mono hHeld.size)
  go_simp
  try go_wp2_with fail
  refine hK.out _ _ hS5 (fun hHeld => ?_)
  clear hK K
  try simp only [Act.put, List.setIfInBounds_toArray, List.set_cons_zero, List.set_cons_succ]
  refine wpAnyH_take (i := 13) (oi := { dst := some 3, op := Go.Op.assign (Go.Operand.tmp 18), type := 61, pos := "l11_net.go:134", after := #[{ on := 12, ground := Go.Ground.data }, { on := 11, ground := Go.Ground.chain }, { on := 0, ground := Go.Ground.phase }, { on := 1, ground := Go.Ground.phase }, { on := 2, ground := Go.Ground.phase }, { on := 3, ground := Go.Ground.phase }, { on := 4, ground := Go.Ground.phase }, { on := 5, ground := Go.Ground.phase }, { on := 6, ground := Go.Ground.phase }, { on := 7, ground := Go.Ground.phase }, { on := 8, ground := Go.Ground.phase }, { on := 9, ground := Go.Ground.phase }, { on := 10, ground := Go.Ground.phase }, { on := 11, ground := Go.Ground.phase }, { on := 12, ground := Go.Ground.phase }], guard := none }) (v := ?vm13) rfl (by kernel_rfl) (by kernel_rfl) (by kernel_rfl) (fun _ _ _ h => h) (Or.inl ⟨by rfl, ?hm13⟩) hHeld ?rm13
  case hm13 =>
    intro wS hSw
    (try dsimp only at hSw)
    go_simp
    try with_reducible rfl
  case rm13 =>
  simp only [Act.put, List.setIfInBounds_toArray, List.set_cons_zero, List.set_cons_succ]
  refine wpAnyH_done (by kernel_rfl) ?_ _
  refine NoPanic.normal ?_
  have b5' : Box 0 (List.map Value.string (asTexts (numsM x))).toArray 9 (w4.alloc (.cells #[.string ⟨(dec x.epoch).toArray⟩, .string ⟨(dec x.src).toArray⟩, .string ⟨(dec x.dst).toArray⟩, .string ⟨(dec x.index).toArray⟩] 9)) w4.heap.size := b5
  have HB5 := hide b5'
  have hS := hS5
  have HS := hide hS
  replace HX := hide ((unhide HX).keep hS)
  replace HB := hide ((unhide HB).trans (hS.mono (unhide HB).size))
  replace HRW := hide ((unhide HRW).later hS)
  replace HT := hide ((unhide HT).later hS)
  have hwn : w.heap.size < w4.heap.size := Nat.lt_of_lt_of_le xl hS4.size
  clear hHeld hS1 hS2 hS3 hS4 hS5 b5 nb5 b5' hS L1 L2 L3 L4 HS c0 c1 c2 c3 c4 c5 c6 c7 c8 c9 xl
  generalize w4.alloc (.cells #[.string ⟨(dec x.epoch).toArray⟩, .string ⟨(dec x.src).toArray⟩, .string ⟨(dec x.dst).toArray⟩, .string ⟨(dec x.index).toArray⟩] 9) = W5 at *
  have hl5 := (unhide HB5).lt
  have HWN5 : Hid (w.heap.size < W5.heap.size) := Nat.lt_trans hwn hl5
  clear hl5
  have c0 : W5.cell? ⟨w.heap.size, 0, none⟩ = some (.int .i64 x.kind) := (unhide HX).at 0 _ rfl
  have c1 : W5.cell? ⟨w.heap.size, 1, none⟩ = some (.int .i64 x.epoch) := (unhide HX).at 1 _ rfl
  have c2 : W5.cell? ⟨w.heap.size, 2, none⟩ = some (.int .i64 x.src) := (unhide HX).at 2 _ rfl
  have c3 : W5.cell? ⟨w.heap.size, 3, none⟩ = some (.int .i64 x.dst) := (unhide HX).at 3 _ rfl
  have c4 : W5.cell? ⟨w.heap.size, 4, none⟩ = some (.int .i64 x.index) := (unhide HX).at 4 _ rfl
  have c5 : W5.cell? ⟨w.heap.size, 5, none⟩ = some (.int .i64 x.write.kind) := (unhide HX).at 5 _ rfl
  have c6 : W5.cell? ⟨w.heap.size, 6, none⟩ = some (.int .i64 x.write.id) := (unhide HX).at 6 _ rfl
  have c7 : W5.cell? ⟨w.heap.size, 7, none⟩ = some (.slice a x.write.vec.length d) := (unhide HX).at 7 _ rfl
  have c8 : W5.cell? ⟨w.heap.size, 8, none⟩ = some (.int .i64 x.write.session) := (unhide HX).at 8 _ rfl
  have c9 : W5.cell? ⟨w.heap.size, 9, none⟩ = some (.int .i64 x.write.seq) := (unhide HX).at 9 _ rfl
  have xl := (unhide HX).lt
  cases hk : (x.kind == 2)
  · have hkk : ¬ x.kind = 2 := by simpa using hk
    have HWM : Hid (asTexts (wordsM x) = [⟨#[102, 111, 114, 119, 97, 114, 100]⟩] ++ (asTexts (numsM x) ++ [⟨(wtext x.write).toArray⟩])) := by show asTexts (wordsM x) = _; rw [wordsM, if_neg hkk]; simp [asTexts]
    have hw : wF x.write = 0 := by
      rcases (unhide HOK).kind with q | q
      · exact absurd q hkk
      · exact q.2
    have nb1 : Below W5.heap.size W5 (W5.alloc (.cells #[.string ⟨#[102, 111, 114, 119, 97, 114, 100]⟩] 9)) := (Below.refl _ _).alloc (Nat.le_refl _) _
    have x1 : Box 0 (List.map Value.string [⟨#[102, 111, 114, 119, 97, 114, 100]⟩]).toArray 9 (W5.alloc (.cells #[.string ⟨#[102, 111, 114, 119, 97, 114, 100]⟩] 9)) W5.heap.size := newBox (Nat.zero_le _)
    have HX1 := hide x1
    have LW := hide (implWText _ x.write _ ((unhide HRW).later nb1) ((unhide HT).later nb1))
    have HFT := fieldText
    replace HB := hide ((unhide HB).trans (nb1.mono (unhide HB).size))
    replace HB5 := hide ((unhide HB5).keep nb1)
    replace HWN5 := hide (Nat.lt_of_lt_of_le (unhide HWN5) nb1.size)
    clear hkk nb1 x1 HX HT HRW HOK
    go_wp2_with fail
    generalize W5.alloc (.cells #[.string ⟨#[102, 111, 114, 119, 97, 114, 100]⟩] 9) = W6 at *
    refine (unhide LW).mono ?_
    rintro e W7 ⟨cs7, rfl, O7, hb7⟩
    obtain ⟨bl7, ⟨hl7, -, -⟩, -⟩ := O7
    obtain ⟨rfl, -, -⟩ := lies_TextResult.1 hl7
    replace HB := hide ((unhide HB).trans (hb7.mono (unhide HB).size))
    replace HB5 := hide ((unhide HB5).keep hb7)
    replace HX1 := hide ((unhide HX1).keep hb7)
    replace HWN5 := hide (Nat.lt_of_lt_of_le (unhide HWN5) hb7.size)
    have HWT : Hid ((wtextR x.write).text = ⟨(wtext x.write).toArray⟩) := rfl
    rw [unhide HWT]
    clear hb7 LW hl7 HWT hw c0 c1 c2 c3 c4 c5 c6 c7 c8 c9
    have nb2 : Below W7.heap.size W7 (W7.alloc (.cells #[.string ⟨(wtext x.write).toArray⟩] 9)) := (Below.refl _ _).alloc (Nat.le_refl _) _
    have x2 : Box 0 (List.map Value.string [⟨(wtext x.write).toArray⟩]).toArray 9 (W7.alloc (.cells #[.string ⟨(wtext x.write).toArray⟩] 9)) W7.heap.size := newBox (Nat.zero_le _)
    have HX2 := hide x2
    replace HB := hide ((unhide HB).trans (nb2.mono (unhide HB).size))
    replace HB5 := hide ((unhide HB5).keep nb2)
    replace HX1 := hide ((unhide HX1).keep nb2)
    replace HWN5 := hide (Nat.lt_of_lt_of_le (unhide HWN5) nb2.size)
    have hz7 : (W7.alloc (.cells #[.string ⟨(wtext x.write).toArray⟩] 9)).heap.size = W7.heap.size + 1 := by simp
    clear nb2 x2
    generalize hW8 : W7.alloc (.cells #[.string ⟨(wtext x.write).toArray⟩] 9) = W8 at *
    have nb3 : Below W8.heap.size W8 (W8.alloc (.cells #[.slice (some ⟨W5.heap.size, 0, none⟩) 1 1, .slice (some ⟨w4.heap.size, 0, none⟩) 4 4, .slice (some ⟨W7.heap.size, 0, none⟩) 1 1] 61)) := (Below.refl _ _).alloc (Nat.le_refl _) _
    have x3 : Box 0 #[.slice (some ⟨W5.heap.size, 0, none⟩) 1 1, .slice (some ⟨w4.heap.size, 0, none⟩) 4 4, .slice (some ⟨W7.heap.size, 0, none⟩) 1 1] 61 (W8.alloc (.cells #[.slice (some ⟨W5.heap.size, 0, none⟩) 1 1, .slice (some ⟨w4.heap.size, 0, none⟩) 4 4, .slice (some ⟨W7.heap.size, 0, none⟩) 1 1] 61)) W8.heap.size := newBox (Nat.zero_le _)
    have HL := hide (implConcatS3 W8.heap.size _ _ _ [⟨#[102, 111, 114, 119, 97, 114, 100]⟩] (asTexts (numsM x)) [⟨(wtext x.write).toArray⟩] _ (x3.at 0 _ rfl) (x3.at 1 _ rfl) (x3.at 2 _ rfl) (strs_box ((unhide HX1).keep nb3) (by simp) 1 rfl) (strs_box ((unhide HB5).keep nb3) (by simp [asTexts, numsM]) 4 rfl) (strs_box ((unhide HX2).keep nb3) (by simp) 1 rfl) (by simp) (by simp [asTexts, numsM]) (by simp))
    replace HB := hide ((unhide HB).trans (nb3.mono (unhide HB).size))
    have HWN : Hid (w.heap.size < (W8.alloc (.cells #[.slice (some ⟨W5.heap.size, 0, none⟩) 1 1, .slice (some ⟨w4.heap.size, 0, none⟩) 4 4, .slice (some ⟨W7.heap.size, 0, none⟩) 1 1] 61)).heap.size) := Nat.lt_of_lt_of_le (unhide HWN5) nb3.size
    have HZ7 := hide hz7
    subst hW8
    clear nb3 x3 HX1 HX2 HB5 HWN5 hz7
    go_wp2_with fail
    rw [unhide HZ7] at HL
    refine (unhide HL).mono ?_
    rintro e W9 ⟨r, rfl, ⟨rows, bls, hG⟩, hb⟩
    have HWE := hide (wordsE_of (w := w) hG (by simp) (unhide HWN))
    replace HB := hide ((unhide HB).trans (hb.mono (unhide HB).size))
    obtain ⟨a9, m9, c9, rfl⟩ : ∃ a9 m9 c9, r = .slice a9 m9 c9 := by
      obtain ⟨g, cap, rfl, -⟩ := unhide HWE
      exact ⟨_, _, _, rfl⟩
    clear hG hb HL
    go_wp2_with fail
    go_ret
    refine ⟨⟨fun _ => ⟨_, rfl, ?_⟩, fun q => absurd (unhide HF) q⟩, unhide HB⟩
    rw [unhide HWM]
    exact unhide HWE
  · have hkk : x.kind = 2 := by simpa using hk
    have HWM : Hid (asTexts (wordsM x) = [⟨#[97, 99, 107]⟩] ++ asTexts (numsM x)) := by show asTexts (wordsM x) = _; rw [wordsM, if_pos hkk]; simp [asTexts]
    have nb1 : Below W5.heap.size W5 (W5.alloc (.cells #[.string ⟨#[97, 99, 107]⟩] 9)) := (Below.refl _ _).alloc (Nat.le_refl _) _
    have x1 : Box 0 (List.map Value.string [⟨#[97, 99, 107]⟩]).toArray 9 (W5.alloc (.cells #[.string ⟨#[97, 99, 107]⟩] 9)) W5.heap.size := newBox (Nat.zero_le _)
    have HX1 := hide x1
    have hz6 : (W5.alloc (.cells #[.string ⟨#[97, 99, 107]⟩] 9)).heap.size = W5.heap.size + 1 := by simp
    replace HB := hide ((unhide HB).trans (nb1.mono (unhide HB).size))
    replace HB5 := hide ((unhide HB5).keep nb1)
    replace HWN5 := hide (Nat.lt_of_lt_of_le (unhide HWN5) nb1.size)
    clear hkk nb1 x1 HX HT HRW HOK
    generalize hW6 : W5.alloc (.cells #[.string ⟨#[97, 99, 107]⟩] 9) = W6 at *
    have nb3 : Below W6.heap.size W6 (W6.alloc (.cells #[.slice (some ⟨W5.heap.size, 0, none⟩) 1 1, .slice (some ⟨w4.heap.size, 0, none⟩) 4 4] 61)) := (Below.refl _ _).alloc (Nat.le_refl _) _
    have x3 : Box 0 #[.slice (some ⟨W5.heap.size, 0, none⟩) 1 1, .slice (some ⟨w4.heap.size, 0, none⟩) 4 4] 61 (W6.alloc (.cells #[.slice (some ⟨W5.heap.size, 0, none⟩) 1 1, .slice (some ⟨w4.heap.size, 0, none⟩) 4 4] 61)) W6.heap.size := newBox (Nat.zero_le _)
    have HL := hide (implConcatS2 W6.heap.size _ _ [⟨#[97, 99, 107]⟩] (asTexts (numsM x)) _ (x3.at 0 _ rfl) (x3.at 1 _ rfl) (strs_box ((unhide HX1).keep nb3) (by simp) 1 rfl) (strs_box ((unhide HB5).keep nb3) (by simp [asTexts, numsM]) 4 rfl) (by simp) (by simp [asTexts, numsM]))
    replace HB := hide ((unhide HB).trans (nb3.mono (unhide HB).size))
    have HWN : Hid (w.heap.size < (W6.alloc (.cells #[.slice (some ⟨W5.heap.size, 0, none⟩) 1 1, .slice (some ⟨w4.heap.size, 0, none⟩) 4 4] 61)).heap.size) := Nat.lt_of_lt_of_le (unhide HWN5) nb3.size
    have HZ6 := hide hz6
    subst hW6
    clear nb3 x3 HX1 HB5 HWN5 hz6
    go_wp2_with fail
    rw [unhide HZ6] at HL
    refine (unhide HL).mono ?_
    rintro e W9 ⟨r, rfl, ⟨rows, bls, hG⟩, hb⟩
    have HWE := hide (wordsE_of (w := w) hG (by simp) (unhide HWN))
    replace HB := hide ((unhide HB).trans (hb.mono (unhide HB).size))
    obtain ⟨a9, m9, c9, rfl⟩ : ∃ a9 m9 c9, r = .slice a9 m9 c9 := by
      obtain ⟨g, cap, rfl, -⟩ := unhide HWE
      exact ⟨_, _, _, rfl⟩
    clear hG hb HL
    go_wp2_with fail
    go_ret
    refine ⟨⟨fun _ => ⟨_, rfl, ?_⟩, fun q => absurd (unhide HF) q⟩, unhide HB⟩
    rw [unhide HWM]
    exact unhide HWE
end Go.Proofs.YtkmfkaljdngigaaGreatDoor

namespace Go.Proofs.YtkmfkaljdngigaaGreatDoor
open Go.RowKit

theorem asWrong (v : Value) (w : World) : (Instr.typeAssert (.iface 109 v) 20 109 true).run Tryz.prog w = .ok (.tuple #[v, .bool true]) w := by kernel_rfl
set_option maxRecDepth 10000 in
theorem wrongCodeC (c : Int) (w : World) :
    Calls Tryz.prog 45 #[.iface 109 (.agg #[.int .i64 c])] w fun e w' => e = .returned (.int .i64 c) ∧ Below w.heap.size w w' := by
  have HB : Hid (Below w.heap.size w (w.alloc (.cells #[.int .i64 c] 109))) := hide ((Below.refl _ _).alloc (Nat.le_refl _) _)
  have q := asWrong
  go_enter Tryz.func45, Tryz.ntmps45
  go_wp2_with fail
  go_ret
  exact ⟨rfl, unhide HB⟩
theorem cell_new (w : World) (v : Value) (T : TypeId) : (w.alloc (.cells #[v] T)).cell? ⟨w.heap.size, 0, none⟩ = some v := (newBox (lo := 0) (Nat.zero_le _) : Box 0 #[v] T (w.alloc (.cells #[v] T)) w.heap.size).at 0 _ rfl
set_option maxRecDepth 10000 in
theorem catch_bad_bool (p : Addr) (x c : Int) (w : World) (hc : w.cell? p = some (.int .i64 x)) (hz : w.frozen? p = false) (hp : p.block < w.heap.size) :
    CallsD Tryz.prog 67 #[.pointer (some p)] (.panicking (wrongP c)) w fun e u' w' =>
      e = .returned (.tuple #[]) ∧ u' = .panicking [{ v := .iface 109 (.agg #[.int .i64 c]), recovered := true }] ∧ ∃ w1, w' = w1.setCell p (.int .i64 c) ∧ Below w.heap.size w w1 := by
  refine callsD_of_wpS Tryz.func67 rfl fun c₀ cs hu => ?_
  apply wpS_seq
  apply wpS_region
  simp [wpOpsS, go_sem, recoverD, hu, Tryz.ntmps67, Exit.thenS, wrongP]
  refine wpS_of_wp ?_
  have HL := hide (wrongCodeC c w)
  go_wp2_with fail
  refine (unhide HL).mono ?_
  rintro e w1 ⟨rfl, hb⟩
  have hc1 : w1.cell? p = some (.int .i64 x) := (hb.cell (p := p) hp).trans hc
  have hz1 : w1.frozen? p = false := (World.frozen?_of_block (hb.block _ hp)).trans hz
  have hp1 : p.block < w1.heap.size := Nat.lt_of_lt_of_le hp hb.size
  have HB := hide hb
  clear hb HL hc hz
  go_wp2_with fail
  refine ⟨rfl, _, rfl, .tuple #[], ?_, rfl, rfl, w1, rfl, unhide HB⟩
  simp [results, Tryz.results67, go_sem]
set_option maxRecDepth 10000 in
theorem catch_ok_bool (p : Addr) (w : World) :
    CallsD Tryz.prog 67 #[.pointer (some p)] .returning w fun e u' w' => e = .returned (.tuple #[]) ∧ u' = .returning ∧ w' = w := by
  refine callsD_of_wpS Tryz.func67 rfl fun c₀ cs hu => ?_
  apply wpS_seq
  apply wpS_region
  simp [wpOpsS, go_sem, recoverD, hu, Tryz.ntmps67, Exit.thenS]
  refine wpS_of_wp ?_
  go_wp2_with fail
  cases c₀
  simp_all [bodyPostS, results, Tryz.results67, go_sem]
set_option maxRecDepth 10000 in
theorem faced_bad_bool (N : Nat) (cap : Array Value) (c : Int) (w : World) (hf : ∀ W : World, (callFunc N cap).run Tryz.prog W = .ok (.enter N cap) W)
    (h : Calls Tryz.prog N cap (w.alloc (.cells #[.int .i64 0] 2)) fun e w' => e = .panicked (wrongP c) ∧ Below (w.heap.size + 1) (w.alloc (.cells #[.int .i64 0] 2)) w') :
    Calls Tryz.prog 33 #[.func (.func N) #[] cap] w fun e w' => e = .returned (.tuple #[.bool false, .int .i64 c]) ∧ Below w.heap.size w w' := by
  have hmf : ∀ (fn : Fn) (first cap : Array Value) (w : World), (Instr.makeFunc fn first cap).run Tryz.prog w = .ok (.func fn first cap) w := fun _ _ _ _ => rfl
  have HL := hide h
  have nb : Below w.heap.size w (w.alloc (.cells #[.int .i64 0] 2)) := (Below.refl _ _).alloc (Nat.le_refl _) _
  have HX : Hid (Box 0 #[.int .i64 0] 2 (w.alloc (.cells #[.int .i64 0] 2)) w.heap.size) := newBox (Nat.zero_le _)
  have HN := hide nb
  clear h nb
  go_enter_defers Tryz.func33, Tryz.ntmps33
  go_wp2_with fail
  refine (unhide HL).mono ?_
  rintro e w1 ⟨rfl, hb⟩
  replace HN := hide ((unhide HN).trans (hb.mono (by omega)))
  have hX := (unhide HX).keep (hb.mono (by simp))
  have z0 : w1.cell? ⟨w.heap.size, 0, none⟩ = some (.int .i64 0) := hX.at 0 _ rfl
  have zf : w1.frozen? ⟨w.heap.size, 0, none⟩ = false := hX.soft 0
  have zl := hX.lt
  clear HL HX hX hb
  go_wp2_with fail
  refine leaves_cons (f := 67) (args := #[.pointer (some ⟨w.heap.size, 0, none⟩)]) (by simp) (by simp [go_sem]) ?_
  refine (catch_bad_bool ⟨w.heap.size, 0, none⟩ 0 c w1 z0 zf zl).mono ?_
  rintro e u' w2 ⟨rfl, rfl, w3, rfl, hb⟩
  have hN : Below w.heap.size w (w3.setCell ⟨w.heap.size, 0, none⟩ (.int .i64 c)) := ((unhide HN).trans (hb.mono (unhide HN).size)).setCell (by simp) _
  have z1 : (w3.setCell ⟨w.heap.size, 0, none⟩ (.int .i64 c)).cell? ⟨w.heap.size, 0, none⟩ = some (.int .i64 c) := World.cell?_setCell_same _ _ _ ((hb.cell (p := ⟨w.heap.size, 0, none⟩) zl).trans z0)
  simp [Leaves, settle, results, Tryz.results33, go_sem, z1]
  exact hN
set_option maxRecDepth 10000 in
theorem faced_ok_bool (N : Nat) (cap : Array Value) (w : World) (Q : Value → World → Prop) (hf : ∀ W : World, (callFunc N cap).run Tryz.prog W = .ok (.enter N cap) W)
    (h : Calls Tryz.prog N cap (w.alloc (.cells #[.int .i64 0] 2)) fun e w' => ∃ v, e = .returned v ∧ Q v w' ∧ Below (w.heap.size + 1) (w.alloc (.cells #[.int .i64 0] 2)) w') :
    Calls Tryz.prog 33 #[.func (.func N) #[] cap] w fun e w' => ∃ v w1, e = .returned (.tuple #[v, .int .i64 0]) ∧ Q v w1 ∧ w' = w1.setCell ⟨w.heap.size, 0, none⟩ (.int .i64 0) ∧ Below w.heap.size w w' ∧ w.heap.size < w1.heap.size := by
  have hmf : ∀ (fn : Fn) (first cap : Array Value) (w : World), (Instr.makeFunc fn first cap).run Tryz.prog w = .ok (.func fn first cap) w := fun _ _ _ _ => rfl
  have HL := hide h
  have nb : Below w.heap.size w (w.alloc (.cells #[.int .i64 0] 2)) := (Below.refl _ _).alloc (Nat.le_refl _) _
  have HX : Hid (Box 0 #[.int .i64 0] 2 (w.alloc (.cells #[.int .i64 0] 2)) w.heap.size) := newBox (Nat.zero_le _)
  have HN := hide nb
  clear h nb
  go_enter_defers Tryz.func33, Tryz.ntmps33
  go_wp2_with fail
  refine (unhide HL).mono ?_
  rintro e w1 ⟨v, rfl, hq, hb⟩
  have HQ := hide hq
  replace HN := hide ((unhide HN).trans (hb.mono (by omega)))
  have hX := (unhide HX).keep (hb.mono (by simp))
  have z0 : w1.cell? ⟨w.heap.size, 0, none⟩ = some (.int .i64 0) := hX.at 0 _ rfl
  have zf : w1.frozen? ⟨w.heap.size, 0, none⟩ = false := hX.soft 0
  have zl := hX.lt
  clear HL HX hX hb hq
  go_wp2_with fail
  refine leaves_cons (f := 67) (args := #[.pointer (some ⟨w.heap.size, 0, none⟩)]) (by simp) (by simp [go_sem]) ?_
  refine (catch_ok_bool ⟨w.heap.size, 0, none⟩ _).mono ?_
  rintro e u' w2 ⟨rfl, rfl, rfl⟩
  have hN : Below w.heap.size w (w1.setCell ⟨w.heap.size, 0, none⟩ (.int .i64 0)) := (unhide HN).setCell (by simp) _
  have z1 : (w1.setCell ⟨w.heap.size, 0, none⟩ (.int .i64 0)).cell? ⟨w.heap.size, 0, none⟩ = some (.int .i64 0) := World.cell?_setCell_same _ _ _ z0
  refine ⟨.tuple #[v, .int .i64 0], by simp [results, Tryz.results33, go_sem, z1], v, w1, rfl, unhide HQ, rfl, hN, zl⟩
set_option maxRecDepth 10000 in
theorem catch_bad_msgs (p : Addr) (x c : Int) (w : World) (hc : w.cell? p = some (.int .i64 x)) (hz : w.frozen? p = false) (hp : p.block < w.heap.size) :
    CallsD Tryz.prog 44 #[.pointer (some p)] (.panicking (wrongP c)) w fun e u' w' =>
      e = .returned (.tuple #[]) ∧ u' = .panicking [{ v := .iface 109 (.agg #[.int .i64 c]), recovered := true }] ∧ ∃ w1, w' = w1.setCell p (.int .i64 c) ∧ Below w.heap.size w w1 := by
  refine callsD_of_wpS Tryz.func44 rfl fun c₀ cs hu => ?_
  apply wpS_seq
  apply wpS_region
  simp [wpOpsS, go_sem, recoverD, hu, Tryz.ntmps44, Exit.thenS, wrongP]
  refine wpS_of_wp ?_
  have HL := hide (wrongCodeC c w)
  go_wp2_with fail
  refine (unhide HL).mono ?_
  rintro e w1 ⟨rfl, hb⟩
  have hc1 : w1.cell? p = some (.int .i64 x) := (hb.cell (p := p) hp).trans hc
  have hz1 : w1.frozen? p = false := (World.frozen?_of_block (hb.block _ hp)).trans hz
  have hp1 : p.block < w1.heap.size := Nat.lt_of_lt_of_le hp hb.size
  have HB := hide hb
  clear hb HL hc hz
  go_wp2_with fail
  refine ⟨rfl, _, rfl, .tuple #[], ?_, rfl, rfl, w1, rfl, unhide HB⟩
  simp [results, Tryz.results44, go_sem]
set_option maxRecDepth 10000 in
theorem catch_ok_msgs (p : Addr) (w : World) :
    CallsD Tryz.prog 44 #[.pointer (some p)] .returning w fun e u' w' => e = .returned (.tuple #[]) ∧ u' = .returning ∧ w' = w := by
  refine callsD_of_wpS Tryz.func44 rfl fun c₀ cs hu => ?_
  apply wpS_seq
  apply wpS_region
  simp [wpOpsS, go_sem, recoverD, hu, Tryz.ntmps44, Exit.thenS]
  refine wpS_of_wp ?_
  go_wp2_with fail
  cases c₀
  simp_all [bodyPostS, results, Tryz.results44, go_sem]
set_option maxRecDepth 10000 in
theorem faced_bad_msgs (N : Nat) (cap : Array Value) (c : Int) (w : World) (hf : ∀ W : World, (callFunc N cap).run Tryz.prog W = .ok (.enter N cap) W)
    (h : Calls Tryz.prog N cap (w.alloc (.cells #[.int .i64 0] 2)) fun e w' => e = .panicked (wrongP c) ∧ Below (w.heap.size + 1) (w.alloc (.cells #[.int .i64 0] 2)) w') :
    Calls Tryz.prog 18 #[.func (.func N) #[] cap] w fun e w' => e = .returned (.tuple #[.slice none 0 0, .int .i64 c]) ∧ Below w.heap.size w w' := by
  have hmf : ∀ (fn : Fn) (first cap : Array Value) (w : World), (Instr.makeFunc fn first cap).run Tryz.prog w = .ok (.func fn first cap) w := fun _ _ _ _ => rfl
  have HL := hide h
  have nb : Below w.heap.size w (w.alloc (.cells #[.int .i64 0] 2)) := (Below.refl _ _).alloc (Nat.le_refl _) _
  have HX : Hid (Box 0 #[.int .i64 0] 2 (w.alloc (.cells #[.int .i64 0] 2)) w.heap.size) := newBox (Nat.zero_le _)
  have HN := hide nb
  clear h nb
  go_enter_defers Tryz.func18, Tryz.ntmps18
  go_wp2_with fail
  refine (unhide HL).mono ?_
  rintro e w1 ⟨rfl, hb⟩
  replace HN := hide ((unhide HN).trans (hb.mono (by omega)))
  have hX := (unhide HX).keep (hb.mono (by simp))
  have z0 : w1.cell? ⟨w.heap.size, 0, none⟩ = some (.int .i64 0) := hX.at 0 _ rfl
  have zf : w1.frozen? ⟨w.heap.size, 0, none⟩ = false := hX.soft 0
  have zl := hX.lt
  clear HL HX hX hb
  go_wp2_with fail
  refine leaves_cons (f := 44) (args := #[.pointer (some ⟨w.heap.size, 0, none⟩)]) (by simp) (by simp [go_sem]) ?_
  refine (catch_bad_msgs ⟨w.heap.size, 0, none⟩ 0 c w1 z0 zf zl).mono ?_
  rintro e u' w2 ⟨rfl, rfl, w3, rfl, hb⟩
  have hN : Below w.heap.size w (w3.setCell ⟨w.heap.size, 0, none⟩ (.int .i64 c)) := ((unhide HN).trans (hb.mono (unhide HN).size)).setCell (by simp) _
  have z1 : (w3.setCell ⟨w.heap.size, 0, none⟩ (.int .i64 c)).cell? ⟨w.heap.size, 0, none⟩ = some (.int .i64 c) := World.cell?_setCell_same _ _ _ ((hb.cell (p := ⟨w.heap.size, 0, none⟩) zl).trans z0)
  simp [Leaves, settle, results, Tryz.results18, go_sem, z1]
  exact hN
set_option maxRecDepth 10000 in
theorem faced_ok_msgs (N : Nat) (cap : Array Value) (w : World) (Q : Value → World → Prop) (hf : ∀ W : World, (callFunc N cap).run Tryz.prog W = .ok (.enter N cap) W)
    (h : Calls Tryz.prog N cap (w.alloc (.cells #[.int .i64 0] 2)) fun e w' => ∃ v, e = .returned v ∧ Q v w' ∧ Below (w.heap.size + 1) (w.alloc (.cells #[.int .i64 0] 2)) w') :
    Calls Tryz.prog 18 #[.func (.func N) #[] cap] w fun e w' => ∃ v w1, e = .returned (.tuple #[v, .int .i64 0]) ∧ Q v w1 ∧ w' = w1.setCell ⟨w.heap.size, 0, none⟩ (.int .i64 0) ∧ Below w.heap.size w w' ∧ w.heap.size < w1.heap.size := by
  have hmf : ∀ (fn : Fn) (first cap : Array Value) (w : World), (Instr.makeFunc fn first cap).run Tryz.prog w = .ok (.func fn first cap) w := fun _ _ _ _ => rfl
  have HL := hide h
  have nb : Below w.heap.size w (w.alloc (.cells #[.int .i64 0] 2)) := (Below.refl _ _).alloc (Nat.le_refl _) _
  have HX : Hid (Box 0 #[.int .i64 0] 2 (w.alloc (.cells #[.int .i64 0] 2)) w.heap.size) := newBox (Nat.zero_le _)
  have HN := hide nb
  clear h nb
  go_enter_defers Tryz.func18, Tryz.ntmps18
  go_wp2_with fail
  refine (unhide HL).mono ?_
  rintro e w1 ⟨v, rfl, hq, hb⟩
  have HQ := hide hq
  replace HN := hide ((unhide HN).trans (hb.mono (by omega)))
  have hX := (unhide HX).keep (hb.mono (by simp))
  have z0 : w1.cell? ⟨w.heap.size, 0, none⟩ = some (.int .i64 0) := hX.at 0 _ rfl
  have zf : w1.frozen? ⟨w.heap.size, 0, none⟩ = false := hX.soft 0
  have zl := hX.lt
  clear HL HX hX hb hq
  go_wp2_with fail
  refine leaves_cons (f := 44) (args := #[.pointer (some ⟨w.heap.size, 0, none⟩)]) (by simp) (by simp [go_sem]) ?_
  refine (catch_ok_msgs ⟨w.heap.size, 0, none⟩ _).mono ?_
  rintro e u' w2 ⟨rfl, rfl, rfl⟩
  have hN : Below w.heap.size w (w1.setCell ⟨w.heap.size, 0, none⟩ (.int .i64 0)) := (unhide HN).setCell (by simp) _
  have z1 : (w1.setCell ⟨w.heap.size, 0, none⟩ (.int .i64 0)).cell? ⟨w.heap.size, 0, none⟩ = some (.int .i64 0) := World.cell?_setCell_same _ _ _ z0
  refine ⟨.tuple #[v, .int .i64 0], by simp [results, Tryz.results18, go_sem, z1], v, w1, rfl, unhide HQ, rfl, hN, zl⟩
set_option maxRecDepth 10000 in
theorem catch_bad_int (p : Addr) (x c : Int) (w : World) (hc : w.cell? p = some (.int .i64 x)) (hz : w.frozen? p = false) (hp : p.block < w.heap.size) :
    CallsD Tryz.prog 58 #[.pointer (some p)] (.panicking (wrongP c)) w fun e u' w' =>
      e = .returned (.tuple #[]) ∧ u' = .panicking [{ v := .iface 109 (.agg #[.int .i64 c]), recovered := true }] ∧ ∃ w1, w' = w1.setCell p (.int .i64 c) ∧ Below w.heap.size w w1 := by
  refine callsD_of_wpS Tryz.func58 rfl fun c₀ cs hu => ?_
  apply wpS_seq
  apply wpS_region
  simp [wpOpsS, go_sem, recoverD, hu, Tryz.ntmps58, Exit.thenS, wrongP]
  refine wpS_of_wp ?_
  have HL := hide (wrongCodeC c w)
  go_wp2_with fail
  refine (unhide HL).mono ?_
  rintro e w1 ⟨rfl, hb⟩
  have hc1 : w1.cell? p = some (.int .i64 x) := (hb.cell (p := p) hp).trans hc
  have hz1 : w1.frozen? p = false := (World.frozen?_of_block (hb.block _ hp)).trans hz
  have hp1 : p.block < w1.heap.size := Nat.lt_of_lt_of_le hp hb.size
  have HB := hide hb
  clear hb HL hc hz
  go_wp2_with fail
  refine ⟨rfl, _, rfl, .tuple #[], ?_, rfl, rfl, w1, rfl, unhide HB⟩
  simp [results, Tryz.results58, go_sem]
set_option maxRecDepth 10000 in
theorem catch_ok_int (p : Addr) (w : World) :
    CallsD Tryz.prog 58 #[.pointer (some p)] .returning w fun e u' w' => e = .returned (.tuple #[]) ∧ u' = .returning ∧ w' = w := by
  refine callsD_of_wpS Tryz.func58 rfl fun c₀ cs hu => ?_
  apply wpS_seq
  apply wpS_region
  simp [wpOpsS, go_sem, recoverD, hu, Tryz.ntmps58, Exit.thenS]
  refine wpS_of_wp ?_
  go_wp2_with fail
  cases c₀
  simp_all [bodyPostS, results, Tryz.results58, go_sem]
set_option maxRecDepth 10000 in
theorem faced_bad_int (N : Nat) (cap : Array Value) (c : Int) (w : World) (hf : ∀ W : World, (callFunc N cap).run Tryz.prog W = .ok (.enter N cap) W)
    (h : Calls Tryz.prog N cap (w.alloc (.cells #[.int .i64 0] 2)) fun e w' => e = .panicked (wrongP c) ∧ Below (w.heap.size + 1) (w.alloc (.cells #[.int .i64 0] 2)) w') :
    Calls Tryz.prog 24 #[.func (.func N) #[] cap] w fun e w' => e = .returned (.tuple #[.int .i64 0, .int .i64 c]) ∧ Below w.heap.size w w' := by
  have hmf : ∀ (fn : Fn) (first cap : Array Value) (w : World), (Instr.makeFunc fn first cap).run Tryz.prog w = .ok (.func fn first cap) w := fun _ _ _ _ => rfl
  have HL := hide h
  have nb : Below w.heap.size w (w.alloc (.cells #[.int .i64 0] 2)) := (Below.refl _ _).alloc (Nat.le_refl _) _
  have HX : Hid (Box 0 #[.int .i64 0] 2 (w.alloc (.cells #[.int .i64 0] 2)) w.heap.size) := newBox (Nat.zero_le _)
  have HN := hide nb
  clear h nb
  go_enter_defers Tryz.func24, Tryz.ntmps24
  go_wp2_with fail
  refine (unhide HL).mono ?_
  rintro e w1 ⟨rfl, hb⟩
  replace HN := hide ((unhide HN).trans (hb.mono (by omega)))
  have hX := (unhide HX).keep (hb.mono (by simp))
  have z0 : w1.cell? ⟨w.heap.size, 0, none⟩ = some (.int .i64 0) := hX.at 0 _ rfl
  have zf : w1.frozen? ⟨w.heap.size, 0, none⟩ = false := hX.soft 0
  have zl := hX.lt
  clear HL HX hX hb
  go_wp2_with fail
  refine leaves_cons (f := 58) (args := #[.pointer (some ⟨w.heap.size, 0, none⟩)]) (by simp) (by simp [go_sem]) ?_
  refine (catch_bad_int ⟨w.heap.size, 0, none⟩ 0 c w1 z0 zf zl).mono ?_
  rintro e u' w2 ⟨rfl, rfl, w3, rfl, hb⟩
  have hN : Below w.heap.size w (w3.setCell ⟨w.heap.size, 0, none⟩ (.int .i64 c)) := ((unhide HN).trans (hb.mono (unhide HN).size)).setCell (by simp) _
  have z1 : (w3.setCell ⟨w.heap.size, 0, none⟩ (.int .i64 c)).cell? ⟨w.heap.size, 0, none⟩ = some (.int .i64 c) := World.cell?_setCell_same _ _ _ ((hb.cell (p := ⟨w.heap.size, 0, none⟩) zl).trans z0)
  simp [Leaves, settle, results, Tryz.results24, go_sem, z1]
  exact hN
set_option maxRecDepth 10000 in
theorem faced_ok_int (N : Nat) (cap : Array Value) (w : World) (Q : Value → World → Prop) (hf : ∀ W : World, (callFunc N cap).run Tryz.prog W = .ok (.enter N cap) W)
    (h : Calls Tryz.prog N cap (w.alloc (.cells #[.int .i64 0] 2)) fun e w' => ∃ v, e = .returned v ∧ Q v w' ∧ Below (w.heap.size + 1) (w.alloc (.cells #[.int .i64 0] 2)) w') :
    Calls Tryz.prog 24 #[.func (.func N) #[] cap] w fun e w' => ∃ v w1, e = .returned (.tuple #[v, .int .i64 0]) ∧ Q v w1 ∧ w' = w1.setCell ⟨w.heap.size, 0, none⟩ (.int .i64 0) ∧ Below w.heap.size w w' ∧ w.heap.size < w1.heap.size := by
  have hmf : ∀ (fn : Fn) (first cap : Array Value) (w : World), (Instr.makeFunc fn first cap).run Tryz.prog w = .ok (.func fn first cap) w := fun _ _ _ _ => rfl
  have HL := hide h
  have nb : Below w.heap.size w (w.alloc (.cells #[.int .i64 0] 2)) := (Below.refl _ _).alloc (Nat.le_refl _) _
  have HX : Hid (Box 0 #[.int .i64 0] 2 (w.alloc (.cells #[.int .i64 0] 2)) w.heap.size) := newBox (Nat.zero_le _)
  have HN := hide nb
  clear h nb
  go_enter_defers Tryz.func24, Tryz.ntmps24
  go_wp2_with fail
  refine (unhide HL).mono ?_
  rintro e w1 ⟨v, rfl, hq, hb⟩
  have HQ := hide hq
  replace HN := hide ((unhide HN).trans (hb.mono (by omega)))
  have hX := (unhide HX).keep (hb.mono (by simp))
  have z0 : w1.cell? ⟨w.heap.size, 0, none⟩ = some (.int .i64 0) := hX.at 0 _ rfl
  have zf : w1.frozen? ⟨w.heap.size, 0, none⟩ = false := hX.soft 0
  have zl := hX.lt
  clear HL HX hX hb hq
  go_wp2_with fail
  refine leaves_cons (f := 58) (args := #[.pointer (some ⟨w.heap.size, 0, none⟩)]) (by simp) (by simp [go_sem]) ?_
  refine (catch_ok_int ⟨w.heap.size, 0, none⟩ _).mono ?_
  rintro e u' w2 ⟨rfl, rfl, rfl⟩
  have hN : Below w.heap.size w (w1.setCell ⟨w.heap.size, 0, none⟩ (.int .i64 0)) := (unhide HN).setCell (by simp) _
  have z1 : (w1.setCell ⟨w.heap.size, 0, none⟩ (.int .i64 0)).cell? ⟨w.heap.size, 0, none⟩ = some (.int .i64 0) := World.cell?_setCell_same _ _ _ z0
  refine ⟨.tuple #[v, .int .i64 0], by simp [results, Tryz.results24, go_sem, z1], v, w1, rfl, unhide HQ, rfl, hN, zl⟩
set_option maxRecDepth 10000 in
theorem catch_bad_strs (p : Addr) (x c : Int) (w : World) (hc : w.cell? p = some (.int .i64 x)) (hz : w.frozen? p = false) (hp : p.block < w.heap.size) :
    CallsD Tryz.prog 60 #[.pointer (some p)] (.panicking (wrongP c)) w fun e u' w' =>
      e = .returned (.tuple #[]) ∧ u' = .panicking [{ v := .iface 109 (.agg #[.int .i64 c]), recovered := true }] ∧ ∃ w1, w' = w1.setCell p (.int .i64 c) ∧ Below w.heap.size w w1 := by
  refine callsD_of_wpS Tryz.func60 rfl fun c₀ cs hu => ?_
  apply wpS_seq
  apply wpS_region
  simp [wpOpsS, go_sem, recoverD, hu, Tryz.ntmps60, Exit.thenS, wrongP]
  refine wpS_of_wp ?_
  have HL := hide (wrongCodeC c w)
  go_wp2_with fail
  refine (unhide HL).mono ?_
  rintro e w1 ⟨rfl, hb⟩
  have hc1 : w1.cell? p = some (.int .i64 x) := (hb.cell (p := p) hp).trans hc
  have hz1 : w1.frozen? p = false := (World.frozen?_of_block (hb.block _ hp)).trans hz
  have hp1 : p.block < w1.heap.size := Nat.lt_of_lt_of_le hp hb.size
  have HB := hide hb
  clear hb HL hc hz
  go_wp2_with fail
  refine ⟨rfl, _, rfl, .tuple #[], ?_, rfl, rfl, w1, rfl, unhide HB⟩
  simp [results, Tryz.results60, go_sem]
set_option maxRecDepth 10000 in
theorem catch_ok_strs (p : Addr) (w : World) :
    CallsD Tryz.prog 60 #[.pointer (some p)] .returning w fun e u' w' => e = .returned (.tuple #[]) ∧ u' = .returning ∧ w' = w := by
  refine callsD_of_wpS Tryz.func60 rfl fun c₀ cs hu => ?_
  apply wpS_seq
  apply wpS_region
  simp [wpOpsS, go_sem, recoverD, hu, Tryz.ntmps60, Exit.thenS]
  refine wpS_of_wp ?_
  go_wp2_with fail
  cases c₀
  simp_all [bodyPostS, results, Tryz.results60, go_sem]
set_option maxRecDepth 10000 in
theorem faced_bad_strs (N : Nat) (cap : Array Value) (c : Int) (w : World) (hf : ∀ W : World, (callFunc N cap).run Tryz.prog W = .ok (.enter N cap) W)
    (h : Calls Tryz.prog N cap (w.alloc (.cells #[.int .i64 0] 2)) fun e w' => e = .panicked (wrongP c) ∧ Below (w.heap.size + 1) (w.alloc (.cells #[.int .i64 0] 2)) w') :
    Calls Tryz.prog 29 #[.func (.func N) #[] cap] w fun e w' => e = .returned (.tuple #[.slice none 0 0, .int .i64 c]) ∧ Below w.heap.size w w' := by
  have hmf : ∀ (fn : Fn) (first cap : Array Value) (w : World), (Instr.makeFunc fn first cap).run Tryz.prog w = .ok (.func fn first cap) w := fun _ _ _ _ => rfl
  have HL := hide h
  have nb : Below w.heap.size w (w.alloc (.cells #[.int .i64 0] 2)) := (Below.refl _ _).alloc (Nat.le_refl _) _
  have HX : Hid (Box 0 #[.int .i64 0] 2 (w.alloc (.cells #[.int .i64 0] 2)) w.heap.size) := newBox (Nat.zero_le _)
  have HN := hide nb
  clear h nb
  go_enter_defers Tryz.func29, Tryz.ntmps29
  go_wp2_with fail
  refine (unhide HL).mono ?_
  rintro e w1 ⟨rfl, hb⟩
  replace HN := hide ((unhide HN).trans (hb.mono (by omega)))
  have hX := (unhide HX).keep (hb.mono (by simp))
  have z0 : w1.cell? ⟨w.heap.size, 0, none⟩ = some (.int .i64 0) := hX.at 0 _ rfl
  have zf : w1.frozen? ⟨w.heap.size, 0, none⟩ = false := hX.soft 0
  have zl := hX.lt
  clear HL HX hX hb
  go_wp2_with fail
  refine leaves_cons (f := 60) (args := #[.pointer (some ⟨w.heap.size, 0, none⟩)]) (by simp) (by simp [go_sem]) ?_
  refine (catch_bad_strs ⟨w.heap.size, 0, none⟩ 0 c w1 z0 zf zl).mono ?_
  rintro e u' w2 ⟨rfl, rfl, w3, rfl, hb⟩
  have hN : Below w.heap.size w (w3.setCell ⟨w.heap.size, 0, none⟩ (.int .i64 c)) := ((unhide HN).trans (hb.mono (unhide HN).size)).setCell (by simp) _
  have z1 : (w3.setCell ⟨w.heap.size, 0, none⟩ (.int .i64 c)).cell? ⟨w.heap.size, 0, none⟩ = some (.int .i64 c) := World.cell?_setCell_same _ _ _ ((hb.cell (p := ⟨w.heap.size, 0, none⟩) zl).trans z0)
  simp [Leaves, settle, results, Tryz.results29, go_sem, z1]
  exact hN
set_option maxRecDepth 10000 in
theorem faced_ok_strs (N : Nat) (cap : Array Value) (w : World) (Q : Value → World → Prop) (hf : ∀ W : World, (callFunc N cap).run Tryz.prog W = .ok (.enter N cap) W)
    (h : Calls Tryz.prog N cap (w.alloc (.cells #[.int .i64 0] 2)) fun e w' => ∃ v, e = .returned v ∧ Q v w' ∧ Below (w.heap.size + 1) (w.alloc (.cells #[.int .i64 0] 2)) w') :
    Calls Tryz.prog 29 #[.func (.func N) #[] cap] w fun e w' => ∃ v w1, e = .returned (.tuple #[v, .int .i64 0]) ∧ Q v w1 ∧ w' = w1.setCell ⟨w.heap.size, 0, none⟩ (.int .i64 0) ∧ Below w.heap.size w w' ∧ w.heap.size < w1.heap.size := by
  have hmf : ∀ (fn : Fn) (first cap : Array Value) (w : World), (Instr.makeFunc fn first cap).run Tryz.prog w = .ok (.func fn first cap) w := fun _ _ _ _ => rfl
  have HL := hide h
  have nb : Below w.heap.size w (w.alloc (.cells #[.int .i64 0] 2)) := (Below.refl _ _).alloc (Nat.le_refl _) _
  have HX : Hid (Box 0 #[.int .i64 0] 2 (w.alloc (.cells #[.int .i64 0] 2)) w.heap.size) := newBox (Nat.zero_le _)
  have HN := hide nb
  clear h nb
  go_enter_defers Tryz.func29, Tryz.ntmps29
  go_wp2_with fail
  refine (unhide HL).mono ?_
  rintro e w1 ⟨v, rfl, hq, hb⟩
  have HQ := hide hq
  replace HN := hide ((unhide HN).trans (hb.mono (by omega)))
  have hX := (unhide HX).keep (hb.mono (by simp))
  have z0 : w1.cell? ⟨w.heap.size, 0, none⟩ = some (.int .i64 0) := hX.at 0 _ rfl
  have zf : w1.frozen? ⟨w.heap.size, 0, none⟩ = false := hX.soft 0
  have zl := hX.lt
  clear HL HX hX hb hq
  go_wp2_with fail
  refine leaves_cons (f := 60) (args := #[.pointer (some ⟨w.heap.size, 0, none⟩)]) (by simp) (by simp [go_sem]) ?_
  refine (catch_ok_strs ⟨w.heap.size, 0, none⟩ _).mono ?_
  rintro e u' w2 ⟨rfl, rfl, rfl⟩
  have hN : Below w.heap.size w (w1.setCell ⟨w.heap.size, 0, none⟩ (.int .i64 0)) := (unhide HN).setCell (by simp) _
  have z1 : (w1.setCell ⟨w.heap.size, 0, none⟩ (.int .i64 0)).cell? ⟨w.heap.size, 0, none⟩ = some (.int .i64 0) := World.cell?_setCell_same _ _ _ z0
  refine ⟨.tuple #[v, .int .i64 0], by simp [results, Tryz.results29, go_sem, z1], v, w1, rfl, unhide HQ, rfl, hN, zl⟩
end Go.Proofs.YtkmfkaljdngigaaGreatDoor

namespace Go.Proofs.YtkmfkaljdngigaaGreatDoor
open Go.RowKit

theorem join_nilC (w : World) : Calls Tryz.prog 32 #[.slice none 0 0, .string ⟨#[32]⟩] w fun e w' => e = .returned (.string ⟨#[]⟩) ∧ w' = w := by
  go_enter Tryz.func32, Tryz.ntmps32
  go_wp2_with fail
  go_ret
  exact ⟨rfl, rfl⟩
set_option maxRecDepth 10000 in
theorem msgTextWork (a : Option Addr) (d : Nat) (x : DMsg) (g : Nat) (w : World) (h : Lay.tMsg.Reads w [.int .i64 x.kind, .int .i64 x.epoch, .int .i64 x.src, .int .i64 x.dst, .int .i64 x.index, .int .i64 x.write.kind, .int .i64 x.write.id, .slice a x.write.vec.length d, .int .i64 x.write.session, .int .i64 x.write.seq] x) (hx : Box 0 #[.int .i64 x.kind, .int .i64 x.epoch, .int .i64 x.src, .int .i64 x.dst, .int .i64 x.index, .int .i64 x.write.kind, .int .i64 x.write.id, .slice a x.write.vec.length d, .int .i64 x.write.session, .int .i64 x.write.seq] 29 w g) (ht : Tab w) :
    Calls Tryz.prog 30 #[.pointer (some ⟨g, 0, none⟩)] w fun e w' => ((msgFault x = 0 → ∃ v, e = .returned v ∧ WordsV (asTexts (wordsM x)) w w' v) ∧ (msgFault x ≠ 0 → e = .panicked (wrongP (msgFault x)))) ∧ Below w.heap.size w w' := by
  have HX := hide hx
  have HL := hide (msgWordsC _ x w h ht)
  clear hx h ht
  have c0 : w.cell? ⟨g, 0, none⟩ = some (.int .i64 x.kind) := (unhide HX).at 0 _ rfl
  have c1 : w.cell? ⟨g, 1, none⟩ = some (.int .i64 x.epoch) := (unhide HX).at 1 _ rfl
  have c2 : w.cell? ⟨g, 2, none⟩ = some (.int .i64 x.src) := (unhide HX).at 2 _ rfl
  have c3 : w.cell? ⟨g, 3, none⟩ = some (.int .i64 x.dst) := (unhide HX).at 3 _ rfl
  have c4 : w.cell? ⟨g, 4, none⟩ = some (.int .i64 x.index) := (unhide HX).at 4 _ rfl
  have c5 : w.cell? ⟨g, 5, none⟩ = some (.int .i64 x.write.kind) := (unhide HX).at 5 _ rfl
  have c6 : w.cell? ⟨g, 6, none⟩ = some (.int .i64 x.write.id) := (unhide HX).at 6 _ rfl
  have c7 : w.cell? ⟨g, 7, none⟩ = some (.slice a x.write.vec.length d) := (unhide HX).at 7 _ rfl
  have c8 : w.cell? ⟨g, 8, none⟩ = some (.int .i64 x.write.session) := (unhide HX).at 8 _ rfl
  have c9 : w.cell? ⟨g, 9, none⟩ = some (.int .i64 x.write.seq) := (unhide HX).at 9 _ rfl
  go_enter Tryz.func30, Tryz.ntmps30
  go_wp2_with fail
  refine (unhide HL).mono ?_
  rintro e W2 ⟨he, hb⟩
  have HB := hide hb
  have HE := hide he
  clear hb HL c0 c1 c2 c3 c4 c5 c6 c7 c8 c9 he
  by_cases hf : msgFault x = 0
  · obtain ⟨v, rfl, hv⟩ := (unhide HE).1 hf
    have HF := hide hf
    have HV := hide hv
    obtain ⟨g9, c9, rfl, -⟩ := hv
    clear hf HE
    go_wp2_with fail
    go_ret
    exact ⟨⟨fun _ => ⟨_, rfl, unhide HV⟩, fun q => absurd (unhide HF) q⟩, unhide HB⟩
  · obtain rfl := (unhide HE).2 hf
    have HF := hide hf
    clear hf HE
    go_wp2_with fail
    exact ⟨rfl, ⟨fun q => absurd q (unhide HF), fun _ => rfl⟩, unhide HB⟩
set_option maxRecDepth 100000 in
set_option maxHeartbeats 2000000 in
theorem implMsgText (cs : List Value) (x : DMsg) (w : World) (ht : Tab w) (h : Lay.tMsg.Reads w cs x) :
    Calls Tryz.prog 10 #[.agg cs.toArray] w fun e w' => ∃ cs, e = .returned (.agg cs.toArray) ∧ Lay.tTextResult.OwnIn w' cs (textMR x) w.heap.size w'.heap.size ∧ Below w.heap.size w w' := by
  have hmf : ∀ (fn : Fn) (first cap : Array Value) (w : World), (Instr.makeFunc fn first cap).run Tryz.prog w = .ok (.func fn first cap) w := fun _ _ _ _ => rfl
  obtain ⟨a, d, rfl, -⟩ := open_Msg h
  have nb1 : Below w.heap.size w (w.alloc (.cells #[.int .i64 x.kind, .int .i64 x.epoch, .int .i64 x.src, .int .i64 x.dst, .int .i64 x.index, .int .i64 x.write.kind, .int .i64 x.write.id, .slice a x.write.vec.length d, .int .i64 x.write.session, .int .i64 x.write.seq] 29)) := (Below.refl _ _).alloc (Nat.le_refl _) _
  have x1 : Box 0 #[.int .i64 x.kind, .int .i64 x.epoch, .int .i64 x.src, .int .i64 x.dst, .int .i64 x.index, .int .i64 x.write.kind, .int .i64 x.write.id, .slice a x.write.vec.length d, .int .i64 x.write.session, .int .i64 x.write.seq] 29 (w.alloc (.cells #[.int .i64 x.kind, .int .i64 x.epoch, .int .i64 x.src, .int .i64 x.dst, .int .i64 x.index, .int .i64 x.write.kind, .int .i64 x.write.id, .slice a x.write.vec.length d, .int .i64 x.write.session, .int .i64 x.write.seq] 29)) w.heap.size := newBox (Nat.zero_le _)
  have s1 : (w.alloc (.cells #[.int .i64 x.kind, .int .i64 x.epoch, .int .i64 x.src, .int .i64 x.dst, .int .i64 x.index, .int .i64 x.write.kind, .int .i64 x.write.id, .slice a x.write.vec.length d, .int .i64 x.write.session, .int .i64 x.write.seq] 29)).heap.size = w.heap.size + 1 := by simp
  have R1 := h.later nb1
  generalize hA1 : w.alloc (.cells #[.int .i64 x.kind, .int .i64 x.epoch, .int .i64 x.src, .int .i64 x.dst, .int .i64 x.index, .int .i64 x.write.kind, .int .i64 x.write.id, .slice a x.write.vec.length d, .int .i64 x.write.session, .int .i64 x.write.seq] 29) = A1 at *
  have nb3 : Below A1.heap.size A1 (A1.alloc (.cells #[.int .i64 0, .string ⟨#[]⟩] 40)) := (Below.refl _ _).alloc (Nat.le_refl _) _
  have x3 : Box 0 #[.int .i64 0, .string ⟨#[]⟩] 40 (A1.alloc (.cells #[.int .i64 0, .string ⟨#[]⟩] 40)) A1.heap.size := newBox (Nat.zero_le _)
  have s3 : (A1.alloc (.cells #[.int .i64 0, .string ⟨#[]⟩] 40)).heap.size = A1.heap.size + 1 := by simp
  replace x1 := x1.keep nb3
  have R3 := R1.later nb3
  have B3 : Below w.heap.size w (A1.alloc (.cells #[.int .i64 0, .string ⟨#[]⟩] 40)) := nb1.trans (nb3.mono (by omega))
  have HB := hide B3
  rw [s1] at s3 x3
  have HX1 := hide x1
  have HX3 := hide x3
  have HR := hide R3
  have HT := hide (ht.later B3)
  subst hA1
  clear nb1 nb3 x1 x3 R1 R3 B3 s1 h ht
  go_enter Tryz.func10, Tryz.ntmps10
  go_upto_region 1 with fail
  generalize (w.alloc (.cells #[.int .i64 x.kind, .int .i64 x.epoch, .int .i64 x.src, .int .i64 x.dst, .int .i64 x.index, .int .i64 x.write.kind, .int .i64 x.write.id, .slice a x.write.vec.length d, .int .i64 x.write.session, .int .i64 x.write.seq] 29)).alloc (.cells #[.int .i64 0, .string ⟨#[]⟩] 40) = W1 at *
  have nb : Below W1.heap.size W1 (W1.alloc (.cells #[.int .i64 0] 2)) := (Below.refl _ _).alloc (Nat.le_refl _) _
  have HW := hide (msgTextWork a d x w.heap.size _ ((unhide HR).later nb) ((unhide HX1).keep nb) ((unhide HT).later nb))
  have hz : (W1.alloc (.cells #[.int .i64 0] 2)).heap.size = W1.heap.size + 1 := by simp
  have HZ := hide hz
  have HS := hide s3
  clear nb hz s3
  by_cases hf : msgFault x = 0
  · have HL := hide (faced_ok_strs 30 #[.pointer (some ⟨w.heap.size, 0, none⟩)] W1 (fun v w' => WordsV (asTexts (wordsM x)) (W1.alloc (.cells #[.int .i64 0] 2)) w' v) (fun _ => by rfl) ((unhide HW).mono (by
      rintro e w' ⟨he, hb⟩
      obtain ⟨v2, he2, O⟩ := he.1 hf
      rw [unhide HZ] at hb
      exact ⟨v2, he2, O, hb⟩)))
    have HF : Hid (textMR x = ⟨0, ⟨(textM x).toArray⟩⟩) := by show textMR x = _; rw [textMR, if_pos hf]
    clear hf HW
    go_wp2_with fail
    refine (unhide HL).mono ?_
    rintro e W2 ⟨v, W3, rfl, ⟨g, cap, rfl, hcp, hgl, hgw, hcells⟩, hW, hb, -⟩
    have hE : Ext (fun q => q = W1.heap.size) W3 W2 := by rw [hW]; exact (Ext.refl (fun q => q = W1.heap.size) _).setCell ⟨W1.heap.size, 0, none⟩ _ rfl
    have hz9 := unhide HZ
    rw [hz9] at hgw
    have hcells2 : ∀ (j : Nat) (y : ByteArray), (asTexts (wordsM x))[j]? = some y → W2.cell? ⟨g, 0 + j, none⟩ = some (.string y) := fun j y hy => (cell_of_heap (hE.block g hgl (by omega)) _).trans (hcells j y hy)
    have hgl2 : g < W2.heap.size := Nat.lt_of_lt_of_le hgl hE.size
    have hwl := wordsM_len x
    have LJ := Tryz.strings_Join g 0 cap (asTexts (wordsM x)) ⟨#[32]⟩ W2 hcells2 hgl2 (by rw [asTexts_len]; omega) hcp (by rw [asTexts_data]; show (Lib.join (wordsM x) [32]).length ≤ _; rw [wordsM_join]; have := textM_few x; omega)
    rw [asTexts_data] at LJ
    replace LJ : Calls Tryz.prog 32 #[.slice (some ⟨g, 0, none⟩) (asTexts (wordsM x)).length cap, .string ⟨#[32]⟩] W2 fun e w' => e = .returned (.string ⟨(Lib.join (wordsM x) [32]).toArray⟩) ∧ Below W2.heap.size W2 w' := LJ
    rw [wordsM_join] at LJ
    have HLJ := hide LJ
    replace HX3 := hide ((unhide HX3).keep hb)
    replace HB := hide ((unhide HB).trans (hb.mono (unhide HB).size))
    clear LJ hcells hcells2 hgl hgl2 hcp hgw hE hW hb hwl hz9 HL HX1 HR HT HZ HS
    generalize (asTexts (wordsM x)).length = nw at *
    generalize textM x = tx at *
    go_wp2_with fail
    refine (unhide HLJ).mono ?_
    rintro e w4 ⟨rfl, hb⟩
    have bR := (unhide HX3).keep hb
    have z0 : w4.cell? ⟨w.heap.size + 1, 0, none⟩ = some (.int .i64 0) := bR.at 0 _ rfl
    have z1 : w4.cell? ⟨w.heap.size + 1, 1, none⟩ = some (.string ⟨#[]⟩) := bR.at 1 _ rfl
    have ff := bR.soft
    have l0 := bR.lt
    have HB2 := hide (below_setAll ((unhide HB).trans (hb.mono (unhide HB).size)) (w.heap.size + 1) 0 [.int .i64 0, .string ⟨tx.toArray⟩] (by omega))
    clear hb bR HLJ HX3 HB
    go_wp2_with fail
    refine bodyPost_ret (v := .agg #[.int .i64 0, .string ⟨tx.toArray⟩]) (by simp [results, Tryz.results10, go_sem, z0, z1]) rfl ?_
    rw [unhide HF]
    exact ⟨[_, _], rfl, lies_textRM (by decide), unhide HB2⟩
  · have HL := hide (faced_bad_strs 30 #[.pointer (some ⟨w.heap.size, 0, none⟩)] (msgFault x) W1 (fun _ => by rfl) ((unhide HW).mono (by
      rintro e w' ⟨he, hb⟩
      rw [unhide HZ] at hb
      exact ⟨he.2 hf, hb⟩)))
    have HF : Hid (textMR x = ⟨msgFault x, ⟨#[]⟩⟩) := by show textMR x = _; rw [textMR, if_neg hf]
    have hv := msgFault_vals x
    clear hf HW HZ HS
    go_wp2_with fail
    refine (unhide HL).mono ?_
    rintro e W2 ⟨rfl, hb⟩
    replace HX3 := hide ((unhide HX3).keep hb)
    replace HB := hide ((unhide HB).trans (hb.mono (unhide HB).size))
    have HJ := hide (join_nilC W2)
    generalize msgFault x = f at *
    clear hb HL HX1 HR HT
    go_wp2_with fail
    refine (unhide HJ).mono ?_
    rintro e w9 ⟨rfl, h9⟩
    subst w9
    have z0 : W2.cell? ⟨w.heap.size + 1, 0, none⟩ = some (.int .i64 0) := (unhide HX3).at 0 _ rfl
    have z1 : W2.cell? ⟨w.heap.size + 1, 1, none⟩ = some (.string ⟨#[]⟩) := (unhide HX3).at 1 _ rfl
    have ff := (unhide HX3).soft
    have l0 := (unhide HX3).lt
    have HB2 := hide (below_setAll (unhide HB) (w.heap.size + 1) 0 [.int .i64 f, .string ⟨#[]⟩] (by omega))
    clear HX3 HB HJ
    go_wp2_with fail
    refine bodyPost_ret (v := .agg #[.int .i64 f, .string ⟨#[]⟩]) (by simp [results, Tryz.results10, go_sem, z0, z1]) rfl ?_
    rw [unhide HF]
    exact ⟨[_, _], rfl, lies_textRM (wf_of_bd (by omega)), unhide HB2⟩
end Go.Proofs.YtkmfkaljdngigaaGreatDoor

namespace Go.Proofs.YtkmfkaljdngigaaGreatDoor
open Go.RowKit

theorem msgsFrom_drop {xs : List DMsg} {k : Nat} (hk : k < xs.length) : msgsFrom (xs.drop k) = if msgFault xs[k] = 0 then msgsFrom (xs.drop (k + 1)) else msgFault xs[k] := by
  rw [List.drop_eq_getElem_cons hk, msgsFrom]
set_option maxRecDepth 10000 in
set_option maxHeartbeats 4000000 in
theorem mustBeNetC (v : Value) (xs : List DMsg) (w : World) (h : (Lay.sl Lay.tMsg).Reads w [v] xs) :
    Calls Tryz.prog 35 #[v] w fun e w' => e = wrongE (netFault xs) ∧ Below w.heap.size w w' := by
  have hbig := h.big
  obtain ⟨ao, cap, rfl⟩ := open_sl h
  have H := hide h
  clear h
  go_enter Tryz.func35, Tryz.ntmps35
  cases e1 : decide ((xs.length : Int) ≤ 40)
  · have HF : Hid (netFault xs = 2) := by show netFault xs = 2; rw [netFault, if_pos (by simp at e1; omega)]
    go_wp2_with fail
    refine (mustF 2 _).mono ?_
    rintro e w9 ⟨rfl, h9⟩
    subst w9
    go_wp2_with fail
    exact ⟨rfl, by rw [unhide HF]; rfl, Below.refl _ _⟩
  · have HF : Hid (netFault xs = msgsFrom (xs.drop 0)) := by show netFault xs = _; rw [netFault, if_neg (by simp at e1; omega)]; rfl
    go_wp2_with fail
    refine (mustT 2 _).mono ?_
    rintro e w9 ⟨rfl, h9⟩
    subst w9
    clear e1
    go_wp2_with fail
    go_loopw [10] (fun i wr => ∃ k : Nat, k ≤ xs.length ∧ i = .int .i64 k ∧ netFault xs = msgsFrom (xs.drop k) ∧ Below w.heap.size w wr) (fun i _ => xs.length - (intOf i).toNat)
    case atStart => exact ⟨0, Nat.zero_le _, rfl, unhide HF, Below.refl _ _⟩
    case round =>
      obtain ⟨k, hk, rfl, hF, hB⟩ := hrel
      clear HF
      by_cases hlt : k < xs.length
      · obtain ⟨b, off, rfl, hbl⟩ := Lay.sl_addr (unhide H) (by omega)
        obtain ⟨row, hc, hr⟩ := Lay.row_at (unhide H) hlt
        replace hr := hr.later hB
        rw [msgsFrom_drop hlt] at hF
        have hdl : decide ((k : Int) < (xs.length : Int)) = true := by simp; omega
        obtain ⟨a, d, rfl, -⟩ := open_Msg hr
        have c0 : wr.cell? ⟨b, off + k * 10, none⟩ = some (.int .i64 (xs[k]).kind) := (hB.cell (p := ⟨b, off + k * 10, none⟩) hbl).trans (hc 0 (by decide))
        have c1 : wr.cell? ⟨b, off + k * 10 + 1, none⟩ = some (.int .i64 (xs[k]).epoch) := (hB.cell (p := ⟨b, off + k * 10 + 1, none⟩) hbl).trans (hc 1 (by decide))
        have c2 : wr.cell? ⟨b, off + k * 10 + 2, none⟩ = some (.int .i64 (xs[k]).src) := (hB.cell (p := ⟨b, off + k * 10 + 2, none⟩) hbl).trans (hc 2 (by decide))
        have c3 : wr.cell? ⟨b, off + k * 10 + 3, none⟩ = some (.int .i64 (xs[k]).dst) := (hB.cell (p := ⟨b, off + k * 10 + 3, none⟩) hbl).trans (hc 3 (by decide))
        have c4 : wr.cell? ⟨b, off + k * 10 + 4, none⟩ = some (.int .i64 (xs[k]).index) := (hB.cell (p := ⟨b, off + k * 10 + 4, none⟩) hbl).trans (hc 4 (by decide))
        have c5 : wr.cell? ⟨b, off + k * 10 + 5, none⟩ = some (.int .i64 (xs[k]).write.kind) := (hB.cell (p := ⟨b, off + k * 10 + 5, none⟩) hbl).trans (hc 5 (by decide))
        have c6 : wr.cell? ⟨b, off + k * 10 + 6, none⟩ = some (.int .i64 (xs[k]).write.id) := (hB.cell (p := ⟨b, off + k * 10 + 6, none⟩) hbl).trans (hc 6 (by decide))
        have c7 : wr.cell? ⟨b, off + k * 10 + 7, none⟩ = some (.slice a (xs[k]).write.vec.length d) := (hB.cell (p := ⟨b, off + k * 10 + 7, none⟩) hbl).trans (hc 7 (by decide))
        have c8 : wr.cell? ⟨b, off + k * 10 + 8, none⟩ = some (.int .i64 (xs[k]).write.session) := (hB.cell (p := ⟨b, off + k * 10 + 8, none⟩) hbl).trans (hc 8 (by decide))
        have c9 : wr.cell? ⟨b, off + k * 10 + 9, none⟩ = some (.int .i64 (xs[k]).write.seq) := (hB.cell (p := ⟨b, off + k * 10 + 9, none⟩) hbl).trans (hc 9 (by decide))
        have HF := hide hF
        have HR := hide hr
        have HB := hide hB
        clear hF hr hB hc
        generalize hx : xs[k] = x at *
        clear hx
        have nb : Below wr.heap.size wr (wr.alloc (.cells #[.int .i64 x.kind, .int .i64 x.epoch, .int .i64 x.src, .int .i64 x.dst, .int .i64 x.index, .int .i64 x.write.kind, .int .i64 x.write.id, .slice a x.write.vec.length d, .int .i64 x.write.session, .int .i64 x.write.seq] 29)) := (Below.refl _ _).alloc (Nat.le_refl _) _
        have HL := hide (mustBeMsgC _ x _ ((unhide HR).later nb))
        replace HB := hide ((unhide HB).trans (nb.mono (unhide HB).size))
        clear nb
        go_wp2_with fail
        refine (unhide HL).mono ?_
        generalize wr.alloc (.cells #[.int .i64 x.kind, .int .i64 x.epoch, .int .i64 x.src, .int .i64 x.dst, .int .i64 x.index, .int .i64 x.write.kind, .int .i64 x.write.id, .slice a x.write.vec.length d, .int .i64 x.write.session, .int .i64 x.write.seq] 29) = W1 at *
        rintro e W2 ⟨he, hb⟩
        replace HB := hide ((unhide HB).trans (hb.mono (unhide HB).size))
        clear hb HL c0 c1 c2 c3 c4 c5 c6 c7 c8 c9
        by_cases hf : msgFault x = 0
        · rw [wrongE_ok hf] at he
          subst he
          replace HF := hide ((unhide HF).trans (if_pos hf))
          clear hf
          go_wp2_with fail
          go_roundw
          case rel => exact ⟨k + 1, by omega, by go_num, unhide HF, unhide HB⟩
          case measure => simp [intOf]; omega
        · rw [wrongE_bad hf] at he
          subst he
          replace HF := hide ((unhide HF).trans (if_neg hf))
          have HG := hide hf
          clear hf
          go_wp2_with fail
          exact ⟨rfl, by rw [unhide HF]; exact (wrongE_bad (unhide HG)).symm, unhide HB⟩
      · obtain rfl : k = xs.length := by omega
        rw [List.drop_length] at hF
        have hdl : decide ((xs.length : Int) < (xs.length : Int)) = false := by simp
        have HF := hide hF
        have HB := hide hB
        clear hF hB
        go_wp2_with fail
        go_end0
        exact ⟨by rw [unhide HF]; rfl, unhide HB⟩
set_option maxRecDepth 10000 in
theorem msgFaultWork (a : Option Addr) (d : Nat) (x : DMsg) (g : Nat) (w : World) (h : Lay.tMsg.Reads w [.int .i64 x.kind, .int .i64 x.epoch, .int .i64 x.src, .int .i64 x.dst, .int .i64 x.index, .int .i64 x.write.kind, .int .i64 x.write.id, .slice a x.write.vec.length d, .int .i64 x.write.session, .int .i64 x.write.seq] x) (hx : Box 0 #[.int .i64 x.kind, .int .i64 x.epoch, .int .i64 x.src, .int .i64 x.dst, .int .i64 x.index, .int .i64 x.write.kind, .int .i64 x.write.id, .slice a x.write.vec.length d, .int .i64 x.write.session, .int .i64 x.write.seq] 29 w g) :
    Calls Tryz.prog 38 #[.pointer (some ⟨g, 0, none⟩)] w fun e w' => e = workE (.bool true) (msgFault x) ∧ Below w.heap.size w w' := by
  have HX := hide hx
  have HL := hide (mustBeMsgC _ x w h)
  clear hx h
  have z0 : w.cell? ⟨g, 0, none⟩ = some (.int .i64 x.kind) := (unhide HX).at 0 _ rfl
  have z1 : w.cell? ⟨g, 1, none⟩ = some (.int .i64 x.epoch) := (unhide HX).at 1 _ rfl
  have z2 : w.cell? ⟨g, 2, none⟩ = some (.int .i64 x.src) := (unhide HX).at 2 _ rfl
  have z3 : w.cell? ⟨g, 3, none⟩ = some (.int .i64 x.dst) := (unhide HX).at 3 _ rfl
  have z4 : w.cell? ⟨g, 4, none⟩ = some (.int .i64 x.index) := (unhide HX).at 4 _ rfl
  have z5 : w.cell? ⟨g, 5, none⟩ = some (.int .i64 x.write.kind) := (unhide HX).at 5 _ rfl
  have z6 : w.cell? ⟨g, 6, none⟩ = some (.int .i64 x.write.id) := (unhide HX).at 6 _ rfl
  have z7 : w.cell? ⟨g, 7, none⟩ = some (.slice a x.write.vec.length d) := (unhide HX).at 7 _ rfl
  have z8 : w.cell? ⟨g, 8, none⟩ = some (.int .i64 x.write.session) := (unhide HX).at 8 _ rfl
  have z9 : w.cell? ⟨g, 9, none⟩ = some (.int .i64 x.write.seq) := (unhide HX).at 9 _ rfl
  go_enter Tryz.func38, Tryz.ntmps38
  go_wp2_with fail
  refine (unhide HL).mono ?_
  rintro e W2 ⟨he, hb⟩
  have HB := hide hb
  clear hb HL z0 z1 z2 z3 z4 z5 z6 z7 z8 z9
  by_cases hf : msgFault x = 0
  · rw [wrongE_ok hf] at he
    subst he
    have HF := hide hf
    clear hf
    go_wp2_with fail
    go_ret
    exact ⟨(workE_ok (unhide HF)).symm, unhide HB⟩
  · rw [wrongE_bad hf] at he
    subst he
    have HF := hide hf
    clear hf
    go_wp2_with fail
    exact ⟨rfl, (workE_bad (unhide HF)).symm, unhide HB⟩
set_option maxRecDepth 10000 in
set_option maxHeartbeats 1000000 in
theorem implMsgFault (cs : List Value) (x : DMsg) (w : World) (h : Lay.tMsg.Reads w cs x) :
    Calls Tryz.prog 13 #[.agg cs.toArray] w fun e w' => e = .returned (.int .i64 (msgFault x)) ∧ Below w.heap.size w w' := by
  have hmf : ∀ (fn : Fn) (first cap : Array Value) (w : World), (Instr.makeFunc fn first cap).run Tryz.prog w = .ok (.func fn first cap) w := fun _ _ _ _ => rfl
  obtain ⟨a, d, rfl, -⟩ := open_Msg h
  have nb : Below w.heap.size w (w.alloc (.cells #[.int .i64 x.kind, .int .i64 x.epoch, .int .i64 x.src, .int .i64 x.dst, .int .i64 x.index, .int .i64 x.write.kind, .int .i64 x.write.id, .slice a x.write.vec.length d, .int .i64 x.write.session, .int .i64 x.write.seq] 29)) := (Below.refl _ _).alloc (Nat.le_refl _) _
  have HR := hide (h.later nb)
  have HB := hide nb
  have HX : Hid (Box 0 #[.int .i64 x.kind, .int .i64 x.epoch, .int .i64 x.src, .int .i64 x.dst, .int .i64 x.index, .int .i64 x.write.kind, .int .i64 x.write.id, .slice a x.write.vec.length d, .int .i64 x.write.session, .int .i64 x.write.seq] 29 (w.alloc (.cells #[.int .i64 x.kind, .int .i64 x.epoch, .int .i64 x.src, .int .i64 x.dst, .int .i64 x.index, .int .i64 x.write.kind, .int .i64 x.write.id, .slice a x.write.vec.length d, .int .i64 x.write.session, .int .i64 x.write.seq] 29)) w.heap.size) := newBox (Nat.zero_le _)
  clear h nb
  go_enter Tryz.func13, Tryz.ntmps13
  go_upto_region 1 with fail
  generalize w.alloc (.cells #[.int .i64 x.kind, .int .i64 x.epoch, .int .i64 x.src, .int .i64 x.dst, .int .i64 x.index, .int .i64 x.write.kind, .int .i64 x.write.id, .slice a x.write.vec.length d, .int .i64 x.write.session, .int .i64 x.write.seq] 29) = W1 at *
  have nb : Below W1.heap.size W1 (W1.alloc (.cells #[.int .i64 0] 2)) := (Below.refl _ _).alloc (Nat.le_refl _) _
  have HW := hide (msgFaultWork a d x w.heap.size _ ((unhide HR).later nb) ((unhide HX).keep nb))
  have hz : (W1.alloc (.cells #[.int .i64 0] 2)).heap.size = W1.heap.size + 1 := by simp
  have HZ := hide hz
  clear nb hz
  by_cases hf : msgFault x = 0
  · have HL := hide (faced_ok_bool 38 #[.pointer (some ⟨w.heap.size, 0, none⟩)] W1 (fun v _ => v = .bool true) (fun _ => by rfl) ((unhide HW).mono (by
      rintro e w' ⟨he, hb⟩
      rw [workE_ok hf] at he
      rw [unhide HZ] at hb
      exact ⟨_, he, rfl, hb⟩)))
    have HF := hide hf
    clear hf HW HZ
    go_wp2_with fail
    refine (unhide HL).mono ?_
    rintro e W2 ⟨v, W3, rfl, rfl, hW, hb, -⟩
    replace HB := hide ((unhide HB).trans (hb.mono (unhide HB).size))
    clear hW hb HL
    go_wp2_with fail
    go_ret
    exact ⟨by rw [unhide HF]; rfl, unhide HB⟩
  · have HL := hide (faced_bad_bool 38 #[.pointer (some ⟨w.heap.size, 0, none⟩)] (msgFault x) W1 (fun _ => by rfl) ((unhide HW).mono (by
      rintro e w' ⟨he, hb⟩
      rw [workE_bad hf] at he
      rw [unhide HZ] at hb
      exact ⟨he, hb⟩)))
    clear hf HW HZ
    go_wp2_with fail
    refine (unhide HL).mono ?_
    rintro e W2 ⟨rfl, hb⟩
    replace HB := hide ((unhide HB).trans (hb.mono (unhide HB).size))
    clear hb HL
    go_wp2_with fail
    go_ret
    exact ⟨rfl, unhide HB⟩
set_option maxRecDepth 10000 in
theorem netFaultWork (v : Value) (xs : List DMsg) (g : Nat) (w : World) (h : (Lay.sl Lay.tMsg).Reads w [v] xs) (hx : Box 0 #[v] 24 w g) :
    Calls Tryz.prog 34 #[.pointer (some ⟨g, 0, none⟩)] w fun e w' => e = workE (.bool true) (netFault xs) ∧ Below w.heap.size w w' := by
  have HL := hide (mustBeNetC v xs w h)
  obtain ⟨ao, cap, rfl⟩ := open_sl h
  have HX := hide hx
  clear hx h
  have z0 : w.cell? ⟨g, 0, none⟩ = some (.slice ao xs.length cap) := (unhide HX).at 0 _ rfl
  go_enter Tryz.func34, Tryz.ntmps34
  go_wp2_with fail
  refine (unhide HL).mono ?_
  rintro e W2 ⟨he, hb⟩
  have HB := hide hb
  clear hb HL z0
  by_cases hf : netFault xs = 0
  · rw [wrongE_ok hf] at he
    subst he
    have HF := hide hf
    clear hf
    go_wp2_with fail
    go_ret
    exact ⟨(workE_ok (unhide HF)).symm, unhide HB⟩
  · rw [wrongE_bad hf] at he
    subst he
    have HF := hide hf
    clear hf
    go_wp2_with fail
    exact ⟨rfl, (workE_bad (unhide HF)).symm, unhide HB⟩
set_option maxRecDepth 10000 in
set_option maxHeartbeats 1000000 in
theorem implNetFault (v : Value) (xs : List DMsg) (w : World) (h : (Lay.sl Lay.tMsg).Reads w [v] xs) :
    Calls Tryz.prog 11 #[v] w fun e w' => e = .returned (.int .i64 (netFault xs)) ∧ Below w.heap.size w w' := by
  have hmf : ∀ (fn : Fn) (first cap : Array Value) (w : World), (Instr.makeFunc fn first cap).run Tryz.prog w = .ok (.func fn first cap) w := fun _ _ _ _ => rfl
  obtain ⟨ao, cap, rfl⟩ := open_sl h
  have nb : Below w.heap.size w (w.alloc (.cells #[.slice ao xs.length cap] 24)) := (Below.refl _ _).alloc (Nat.le_refl _) _
  have HR := hide (h.later nb)
  have HB := hide nb
  have HX : Hid (Box 0 #[.slice ao xs.length cap] 24 (w.alloc (.cells #[.slice ao xs.length cap] 24)) w.heap.size) := newBox (Nat.zero_le _)
  clear h nb
  go_enter Tryz.func11, Tryz.ntmps11
  go_upto_region 1 with fail
  generalize w.alloc (.cells #[.slice ao xs.length cap] 24) = W1 at *
  have nb : Below W1.heap.size W1 (W1.alloc (.cells #[.int .i64 0] 2)) := (Below.refl _ _).alloc (Nat.le_refl _) _
  have HW := hide (netFaultWork _ xs w.heap.size _ ((unhide HR).later nb) ((unhide HX).keep nb))
  have hz : (W1.alloc (.cells #[.int .i64 0] 2)).heap.size = W1.heap.size + 1 := by simp
  have HZ := hide hz
  clear nb hz
  by_cases hf : netFault xs = 0
  · have HL := hide (faced_ok_bool 34 #[.pointer (some ⟨w.heap.size, 0, none⟩)] W1 (fun v _ => v = .bool true) (fun _ => by rfl) ((unhide HW).mono (by
      rintro e w' ⟨he, hb⟩
      rw [workE_ok hf] at he
      rw [unhide HZ] at hb
      exact ⟨_, he, rfl, hb⟩)))
    have HF := hide hf
    clear hf HW HZ
    go_wp2_with fail
    refine (unhide HL).mono ?_
    rintro e W2 ⟨v, W3, rfl, rfl, hW, hb, -⟩
    replace HB := hide ((unhide HB).trans (hb.mono (unhide HB).size))
    clear hW hb HL
    go_wp2_with fail
    go_ret
    exact ⟨by rw [unhide HF]; rfl, unhide HB⟩
  · have HL := hide (faced_bad_bool 34 #[.pointer (some ⟨w.heap.size, 0, none⟩)] (netFault xs) W1 (fun _ => by rfl) ((unhide HW).mono (by
      rintro e w' ⟨he, hb⟩
      rw [workE_bad hf] at he
      rw [unhide HZ] at hb
      exact ⟨he, hb⟩)))
    clear hf HW HZ
    go_wp2_with fail
    refine (unhide HL).mono ?_
    rintro e W2 ⟨rfl, hb⟩
    replace HB := hide ((unhide HB).trans (hb.mono (unhide HB).size))
    clear hb HL
    go_wp2_with fail
    go_ret
    exact ⟨rfl, unhide HB⟩
end Go.Proofs.YtkmfkaljdngigaaGreatDoor

namespace Go.Proofs.YtkmfkaljdngigaaGreatDoor
open Go.RowKit

set_option maxRecDepth 10000 in
set_option maxHeartbeats 4000000 in
theorem sameMsgC (cs cs2 : List Value) (x y : DMsg) (w : World) (h : Lay.tMsg.Reads w cs x) (h2 : Lay.tMsg.Reads w cs2 y) :
    Calls Tryz.prog 49 #[.agg cs.toArray, .agg cs2.toArray] w fun e w' => e = .returned (.bool (sameM x y)) ∧ Below w.heap.size w w' := by
  obtain ⟨a, d, rfl, R⟩ := open_Msg h
  obtain ⟨a2, d2, rfl, R2⟩ := open_Msg h2
  clear h h2
  have nb : Below w.heap.size w ((w.alloc (.cells #[.int .i64 x.kind, .int .i64 x.epoch, .int .i64 x.src, .int .i64 x.dst, .int .i64 x.index, .int .i64 x.write.kind, .int .i64 x.write.id, .slice a x.write.vec.length d, .int .i64 x.write.session, .int .i64 x.write.seq] 29)).alloc (.cells #[.int .i64 y.kind, .int .i64 y.epoch, .int .i64 y.src, .int .i64 y.dst, .int .i64 y.index, .int .i64 y.write.kind, .int .i64 y.write.id, .slice a2 y.write.vec.length d2, .int .i64 y.write.session, .int .i64 y.write.seq] 29)) := ((Below.refl _ _).alloc (Nat.le_refl _) _).alloc (by simp) _
  have HL := hide (sameWrite _ _ x.write y.write _ (R.later nb) (R2.later nb))
  have HB := hide nb
  clear nb R R2
  cases e0 : (x.kind == y.kind)
  · have HS : Hid (sameM x y = false) := by show sameM x y = false; simp [sameM, e0]
    go_enter Tryz.func49, Tryz.ntmps49
    go_wp2_with fail
    go_ret
    exact ⟨by rw [unhide HS]; rfl, unhide HB⟩
  · have ht0 : True := trivial
    cases e1 : (x.epoch == y.epoch)
    · have HS : Hid (sameM x y = false) := by show sameM x y = false; simp [sameM, e0, e1]
      go_enter Tryz.func49, Tryz.ntmps49
      go_wp2_with fail
      go_ret
      exact ⟨by rw [unhide HS]; rfl, unhide HB⟩
    · have ht1 : True := trivial
      cases e2 : (x.src == y.src)
      · have HS : Hid (sameM x y = false) := by show sameM x y = false; simp [sameM, e0, e1, e2]
        go_enter Tryz.func49, Tryz.ntmps49
        go_wp2_with fail
        go_ret
        exact ⟨by rw [unhide HS]; rfl, unhide HB⟩
      · have ht2 : True := trivial
        cases e3 : (x.dst == y.dst)
        · have HS : Hid (sameM x y = false) := by show sameM x y = false; simp [sameM, e0, e1, e2, e3]
          go_enter Tryz.func49, Tryz.ntmps49
          go_wp2_with fail
          go_ret
          exact ⟨by rw [unhide HS]; rfl, unhide HB⟩
        · have ht3 : True := trivial
          cases e4 : (x.index == y.index)
          · have HS : Hid (sameM x y = false) := by show sameM x y = false; simp [sameM, e0, e1, e2, e3, e4]
            go_enter Tryz.func49, Tryz.ntmps49
            go_wp2_with fail
            go_ret
            exact ⟨by rw [unhide HS]; rfl, unhide HB⟩
          · have ht4 : True := trivial
            have HS : Hid (sameM x y = sameW x.write y.write) := by show sameM x y = _; simp [sameM, e0, e1, e2, e3, e4]
            clear ht0 ht1 ht2 ht3 ht4
            go_enter Tryz.func49, Tryz.ntmps49
            go_wp2_with fail
            refine (unhide HL).mono ?_
            rintro e w1 ⟨rfl, hb⟩
            replace HB := hide ((unhide HB).trans (hb.mono (unhide HB).size))
            clear hb HL
            go_wp2_with fail
            go_ret
            exact ⟨by rw [unhide HS]; rfl, unhide HB⟩
set_option maxRecDepth 10000 in
set_option maxHeartbeats 1000000 in
theorem sentEach (cs : List Value) (a : Option Addr) (d : Nat) (x y : DMsg) (g : Nat) (w : World) (h : Lay.tMsg.Reads w cs y) (hx : Lay.tMsg.Reads w [.int .i64 x.kind, .int .i64 x.epoch, .int .i64 x.src, .int .i64 x.dst, .int .i64 x.index, .int .i64 x.write.kind, .int .i64 x.write.id, .slice a x.write.vec.length d, .int .i64 x.write.session, .int .i64 x.write.seq] x) (hbx : Box 0 #[.int .i64 x.kind, .int .i64 x.epoch, .int .i64 x.src, .int .i64 x.dst, .int .i64 x.index, .int .i64 x.write.kind, .int .i64 x.write.id, .slice a x.write.vec.length d, .int .i64 x.write.session, .int .i64 x.write.seq] 29 w g) :
    Calls Tryz.prog 48 #[.agg cs.toArray, .pointer (some ⟨g, 0, none⟩)] w fun e w' => e = .returned (.bool (sameM y x)) ∧ Below w.heap.size w w' := by
  obtain ⟨a2, d2, rfl, -⟩ := open_Msg h
  have nb : Below w.heap.size w (w.alloc (.cells #[.int .i64 y.kind, .int .i64 y.epoch, .int .i64 y.src, .int .i64 y.dst, .int .i64 y.index, .int .i64 y.write.kind, .int .i64 y.write.id, .slice a2 y.write.vec.length d2, .int .i64 y.write.session, .int .i64 y.write.seq] 29)) := (Below.refl _ _).alloc (Nat.le_refl _) _
  have HL := hide (sameMsgC _ _ y x _ (h.later nb) (hx.later nb))
  have hb1 := hbx.keep nb
  have HB := hide nb
  clear nb h hx hbx
  have c0 : (w.alloc (.cells #[.int .i64 y.kind, .int .i64 y.epoch, .int .i64 y.src, .int .i64 y.dst, .int .i64 y.index, .int .i64 y.write.kind, .int .i64 y.write.id, .slice a2 y.write.vec.length d2, .int .i64 y.write.session, .int .i64 y.write.seq] 29)).cell? ⟨g, 0, none⟩ = some (.int .i64 x.kind) := (hb1).at 0 _ rfl
  have c1 : (w.alloc (.cells #[.int .i64 y.kind, .int .i64 y.epoch, .int .i64 y.src, .int .i64 y.dst, .int .i64 y.index, .int .i64 y.write.kind, .int .i64 y.write.id, .slice a2 y.write.vec.length d2, .int .i64 y.write.session, .int .i64 y.write.seq] 29)).cell? ⟨g, 1, none⟩ = some (.int .i64 x.epoch) := (hb1).at 1 _ rfl
  have c2 : (w.alloc (.cells #[.int .i64 y.kind, .int .i64 y.epoch, .int .i64 y.src, .int .i64 y.dst, .int .i64 y.index, .int .i64 y.write.kind, .int .i64 y.write.id, .slice a2 y.write.vec.length d2, .int .i64 y.write.session, .int .i64 y.write.seq] 29)).cell? ⟨g, 2, none⟩ = some (.int .i64 x.src) := (hb1).at 2 _ rfl
  have c3 : (w.alloc (.cells #[.int .i64 y.kind, .int .i64 y.epoch, .int .i64 y.src, .int .i64 y.dst, .int .i64 y.index, .int .i64 y.write.kind, .int .i64 y.write.id, .slice a2 y.write.vec.length d2, .int .i64 y.write.session, .int .i64 y.write.seq] 29)).cell? ⟨g, 3, none⟩ = some (.int .i64 x.dst) := (hb1).at 3 _ rfl
  have c4 : (w.alloc (.cells #[.int .i64 y.kind, .int .i64 y.epoch, .int .i64 y.src, .int .i64 y.dst, .int .i64 y.index, .int .i64 y.write.kind, .int .i64 y.write.id, .slice a2 y.write.vec.length d2, .int .i64 y.write.session, .int .i64 y.write.seq] 29)).cell? ⟨g, 4, none⟩ = some (.int .i64 x.index) := (hb1).at 4 _ rfl
  have c5 : (w.alloc (.cells #[.int .i64 y.kind, .int .i64 y.epoch, .int .i64 y.src, .int .i64 y.dst, .int .i64 y.index, .int .i64 y.write.kind, .int .i64 y.write.id, .slice a2 y.write.vec.length d2, .int .i64 y.write.session, .int .i64 y.write.seq] 29)).cell? ⟨g, 5, none⟩ = some (.int .i64 x.write.kind) := (hb1).at 5 _ rfl
  have c6 : (w.alloc (.cells #[.int .i64 y.kind, .int .i64 y.epoch, .int .i64 y.src, .int .i64 y.dst, .int .i64 y.index, .int .i64 y.write.kind, .int .i64 y.write.id, .slice a2 y.write.vec.length d2, .int .i64 y.write.session, .int .i64 y.write.seq] 29)).cell? ⟨g, 6, none⟩ = some (.int .i64 x.write.id) := (hb1).at 6 _ rfl
  have c7 : (w.alloc (.cells #[.int .i64 y.kind, .int .i64 y.epoch, .int .i64 y.src, .int .i64 y.dst, .int .i64 y.index, .int .i64 y.write.kind, .int .i64 y.write.id, .slice a2 y.write.vec.length d2, .int .i64 y.write.session, .int .i64 y.write.seq] 29)).cell? ⟨g, 7, none⟩ = some (.slice a x.write.vec.length d) := (hb1).at 7 _ rfl
  have c8 : (w.alloc (.cells #[.int .i64 y.kind, .int .i64 y.epoch, .int .i64 y.src, .int .i64 y.dst, .int .i64 y.index, .int .i64 y.write.kind, .int .i64 y.write.id, .slice a2 y.write.vec.length d2, .int .i64 y.write.session, .int .i64 y.write.seq] 29)).cell? ⟨g, 8, none⟩ = some (.int .i64 x.write.session) := (hb1).at 8 _ rfl
  have c9 : (w.alloc (.cells #[.int .i64 y.kind, .int .i64 y.epoch, .int .i64 y.src, .int .i64 y.dst, .int .i64 y.index, .int .i64 y.write.kind, .int .i64 y.write.id, .slice a2 y.write.vec.length d2, .int .i64 y.write.session, .int .i64 y.write.seq] 29)).cell? ⟨g, 9, none⟩ = some (.int .i64 x.write.seq) := (hb1).at 9 _ rfl
  clear hb1
  go_enter Tryz.func48, Tryz.ntmps48
  go_wp2_with fail
  refine (unhide HL).mono ?_
  rintro e w1 ⟨rfl, hb⟩
  replace HB := hide ((unhide HB).trans (hb.mono (unhide HB).size))
  clear hb HL
  go_wp2_with fail
  go_ret
  exact ⟨rfl, unhide HB⟩
/-- The first place of a message that is the same. -/
def placeM (xs : List DMsg) (x : DMsg) : Int := if xs.any (fun y => sameM y x) then 1 else -1
theorem any_at {xs : List DMsg} {x : DMsg} {k : Nat} (hk : k < xs.length) (h : sameM xs[k] x = true) : xs.any (fun y => sameM y x) = true := List.any_eq_true.2 ⟨xs[k], List.getElem_mem hk, h⟩
theorem any_none {xs : List DMsg} {x : DMsg} (h : ∀ j (hj : j < xs.length), sameM xs[j] x = false) : xs.any (fun y => sameM y x) = false := by
  rw [List.any_eq_false]
  intro y hy
  obtain ⟨j, hj, rfl⟩ := List.getElem_of_mem hy
  simp [h j hj]
set_option maxRecDepth 10000 in
set_option maxHeartbeats 4000000 in
theorem indexFuncM (v : Value) (a : Option Addr) (d : Nat) (xs : List DMsg) (x : DMsg) (g : Nat) (w : World) (h : (Lay.sl Lay.tMsg).Reads w [v] xs) (hx : Lay.tMsg.Reads w [.int .i64 x.kind, .int .i64 x.epoch, .int .i64 x.src, .int .i64 x.dst, .int .i64 x.index, .int .i64 x.write.kind, .int .i64 x.write.id, .slice a x.write.vec.length d, .int .i64 x.write.session, .int .i64 x.write.seq] x) (hbx : Box 0 #[.int .i64 x.kind, .int .i64 x.epoch, .int .i64 x.src, .int .i64 x.dst, .int .i64 x.index, .int .i64 x.write.kind, .int .i64 x.write.id, .slice a x.write.vec.length d, .int .i64 x.write.session, .int .i64 x.write.seq] 29 w g) :
    Calls Tryz.prog 76 #[v, .func (.func 48) #[] #[.pointer (some ⟨g, 0, none⟩)]] w fun e w' => ∃ i : Int, e = .returned (.int .i64 i) ∧ decide (0 ≤ i) = xs.any (fun y => sameM y x) ∧ Below w.heap.size w w' := by
  have hbig := h.big
  obtain ⟨ao, cap, rfl⟩ := open_sl h
  have H := hide h
  have HX := hide hx
  have HBX := hide hbx
  clear h hx hbx
  go_enter Tryz.func76, Tryz.ntmps76
  go_wp2_with fail
  go_loopw [8] (fun i wr => ∃ k : Nat, k ≤ xs.length ∧ i = .int .i64 k ∧ (∀ j (hj : j < xs.length), j < k → sameM xs[j] x = false) ∧ Below w.heap.size w wr) (fun i _ => xs.length - (intOf i).toNat)
  case atStart => exact ⟨0, Nat.zero_le _, rfl, fun j _ hj => by omega, Below.refl _ _⟩
  case round =>
    obtain ⟨k, hk, rfl, hz, hB⟩ := hrel
    by_cases hlt : k < xs.length
    · obtain ⟨b, off, rfl, hbl⟩ := Lay.sl_addr (unhide H) (by omega)
      obtain ⟨row, hc, hr⟩ := Lay.row_at (unhide H) hlt
      replace hr := hr.later hB
      have hdl : decide ((k : Int) < (xs.length : Int)) = true := by simp; omega
      have hr2 := hr
      obtain ⟨a2, d2, rfl, -⟩ := open_Msg hr2
      have c0 : wr.cell? ⟨b, off + k * 10, none⟩ = some (.int .i64 (xs[k]).kind) := (hB.cell (p := ⟨b, off + k * 10, none⟩) hbl).trans (hc 0 (by decide))
      have c1 : wr.cell? ⟨b, off + k * 10 + 1, none⟩ = some (.int .i64 (xs[k]).epoch) := (hB.cell (p := ⟨b, off + k * 10 + 1, none⟩) hbl).trans (hc 1 (by decide))
      have c2 : wr.cell? ⟨b, off + k * 10 + 2, none⟩ = some (.int .i64 (xs[k]).src) := (hB.cell (p := ⟨b, off + k * 10 + 2, none⟩) hbl).trans (hc 2 (by decide))
      have c3 : wr.cell? ⟨b, off + k * 10 + 3, none⟩ = some (.int .i64 (xs[k]).dst) := (hB.cell (p := ⟨b, off + k * 10 + 3, none⟩) hbl).trans (hc 3 (by decide))
      have c4 : wr.cell? ⟨b, off + k * 10 + 4, none⟩ = some (.int .i64 (xs[k]).index) := (hB.cell (p := ⟨b, off + k * 10 + 4, none⟩) hbl).trans (hc 4 (by decide))
      have c5 : wr.cell? ⟨b, off + k * 10 + 5, none⟩ = some (.int .i64 (xs[k]).write.kind) := (hB.cell (p := ⟨b, off + k * 10 + 5, none⟩) hbl).trans (hc 5 (by decide))
      have c6 : wr.cell? ⟨b, off + k * 10 + 6, none⟩ = some (.int .i64 (xs[k]).write.id) := (hB.cell (p := ⟨b, off + k * 10 + 6, none⟩) hbl).trans (hc 6 (by decide))
      have c7 : wr.cell? ⟨b, off + k * 10 + 7, none⟩ = some (.slice a2 (xs[k]).write.vec.length d2) := (hB.cell (p := ⟨b, off + k * 10 + 7, none⟩) hbl).trans (hc 7 (by decide))
      have c8 : wr.cell? ⟨b, off + k * 10 + 8, none⟩ = some (.int .i64 (xs[k]).write.session) := (hB.cell (p := ⟨b, off + k * 10 + 8, none⟩) hbl).trans (hc 8 (by decide))
      have c9 : wr.cell? ⟨b, off + k * 10 + 9, none⟩ = some (.int .i64 (xs[k]).write.seq) := (hB.cell (p := ⟨b, off + k * 10 + 9, none⟩) hbl).trans (hc 9 (by decide))
      have HL := hide (sentEach _ a d x xs[k] g wr hr ((unhide HX).later hB) ((unhide HBX).keep hB))
      have HZ : Hid (∀ j (hj : j < xs.length), j < k → sameM xs[j] x = false) := hz
      have HA : Hid (sameM xs[k] x = true → xs.any (fun y => sameM y x) = true) := fun q => any_at hlt q
      have HN : Hid (sameM xs[k] x = false → ∀ j (hj : j < xs.length), j < k + 1 → sameM xs[j] x = false) := fun q j hj hjk => by
        by_cases h2 : j < k
        · exact hz j hj h2
        · obtain rfl : j = k := by omega
          exact q
      have HB := hide hB
      clear hz hB hr hc hr2
      generalize hy : xs[k] = y at *
      clear hy
      go_wp2_with fail
      refine (unhide HL).mono ?_
      rintro e w2 ⟨rfl, hb⟩
      replace HB := hide ((unhide HB).trans (hb.mono (unhide HB).size))
      clear hb HL c0 c1 c2 c3 c4 c5 c6 c7 c8 c9
      cases hq : sameM y x
      · have HNN := hide (unhide HN hq)
        clear HN HA hq HZ
        go_wp2_with fail
        go_roundw
        case rel => exact ⟨k + 1, by omega, by go_num, unhide HNN, unhide HB⟩
        case measure => simp [intOf]; omega
      · have HAA := hide (unhide HA hq)
        clear HN HA hq HZ
        go_wp2_with fail
        go_ret
        exact ⟨k, rfl, by rw [unhide HAA]; simp, unhide HB⟩
    · obtain rfl : k = xs.length := by omega
      have hdl : decide ((xs.length : Int) < (xs.length : Int)) = false := by simp
      have HAN := hide (any_none (x := x) fun j hj => hz j hj hj)
      have HB := hide hB
      clear hz hB
      go_wp2_with fail
      go_ret
      exact ⟨-1, rfl, by rw [unhide HAN]; rfl, unhide HB⟩
set_option maxRecDepth 10000 in
theorem containsFuncM (v : Value) (a : Option Addr) (d : Nat) (xs : List DMsg) (x : DMsg) (g : Nat) (w : World) (h : (Lay.sl Lay.tMsg).Reads w [v] xs) (hx : Lay.tMsg.Reads w [.int .i64 x.kind, .int .i64 x.epoch, .int .i64 x.src, .int .i64 x.dst, .int .i64 x.index, .int .i64 x.write.kind, .int .i64 x.write.id, .slice a x.write.vec.length d, .int .i64 x.write.session, .int .i64 x.write.seq] x) (hbx : Box 0 #[.int .i64 x.kind, .int .i64 x.epoch, .int .i64 x.src, .int .i64 x.dst, .int .i64 x.index, .int .i64 x.write.kind, .int .i64 x.write.id, .slice a x.write.vec.length d, .int .i64 x.write.session, .int .i64 x.write.seq] 29 w g) :
    Calls Tryz.prog 47 #[v, .func (.func 48) #[] #[.pointer (some ⟨g, 0, none⟩)]] w fun e w' => e = .returned (.bool (xs.any (fun y => sameM y x))) ∧ Below w.heap.size w w' := by
  have HL := hide (indexFuncM v a d xs x g w h hx hbx)
  obtain ⟨ao, cap, rfl⟩ := open_sl h
  clear h hx hbx
  go_enter Tryz.func47, Tryz.ntmps47
  go_wp2_with fail
  refine (unhide HL).mono ?_
  rintro e w2 ⟨i, rfl, hi, hb⟩
  have HI := hide hi
  have HB := hide hb
  clear hb HL hi
  go_wp2_with fail
  go_ret
  exact ⟨by rw [← unhide HI]; rfl, unhide HB⟩
end Go.Proofs.YtkmfkaljdngigaaGreatDoor

namespace Go.Proofs.YtkmfkaljdngigaaGreatDoor
open Go.RowKit

set_option maxHeartbeats 400000 in
theorem slClone (ad : Addr) (cap : Nat) (zs : List Int) (w : World) (h : IsInts w (.slice (some ad) zs.length cap) zs) (hn : zs.length ≤ 100000000) :
    Calls Tryz.prog 77 #[.slice (some ad) zs.length cap] w fun e w' => ∃ v', e = .returned v' ∧ w'.ownsRow w.heap.size 2 1 v' zs.length (zs.map (Value.int .i64)) ∧ Below w.heap.size w w' := by
  have nb : Below w.heap.size w (w.alloc (.cells #[] 2)) := (Below.refl _ _).alloc (Nat.le_refl _) _
  have O : (w.alloc (.cells #[] 2)).ownsRow w.heap.size 2 1 (.slice (some ⟨w.heap.size, 0, none⟩) 0 0) 0 [] := World.ownsRow_lit w _ 0 (Nat.le_refl _) (by unfold maxLen; omega) rfl
  have h1 := h.later nb
  have HB := hide nb
  have hnil : ∀ w : World, (binOp .eql 25 (.slice (some ad) zs.length cap) (.slice none 0 0)).run Tryz.prog w = .ok (.bool false) w := fun _ => by kernel_rfl
  clear nb h
  go_enter Tryz.func77, Tryz.ntmps77
  go_wp2_with (at_builtin; refine wpList_append_ints O h1 rfl _ _ rfl rfl rfl (by omega) (by simp) ?_)
  rintro v' w' O2 - hb
  have HB2 := hide ((unhide HB).trans hb)
  clear O h1 hb HB
  go_wp2_with fail
  go_ret
  exact ⟨v', rfl, by simpa using O2, unhide HB2⟩

end Go.Proofs.YtkmfkaljdngigaaGreatDoor

namespace Go.Proofs.YtkmfkaljdngigaaGreatDoor
open Go.RowKit

set_option maxHeartbeats 400000 in
theorem clone_nil (d : Nat) (w : World) : Calls Tryz.prog 77 #[.slice none 0 d] w fun e w' => e = .returned (.slice none 0 0) ∧ Below w.heap.size w w' := by
  have hnil : ∀ w : World, (binOp .eql 25 (.slice none 0 d) (.slice none 0 0)).run Tryz.prog w = .ok (.bool true) w := fun _ => by kernel_rfl
  have HB : Hid (∀ o, Below w.heap.size w (w.alloc o)) := fun o => (Below.refl _ _).alloc (Nat.le_refl _) o
  go_enter Tryz.func77, Tryz.ntmps77
  go_wp2_with fail
  go_ret
  exact ⟨rfl, Below.refl _ _⟩
theorem cloneC (v : Value) (zs : List Int) (w : World) (h : (Lay.sl Lay.int).Reads w [v] zs) (hn : zs.length ≤ 10000000) :
    Calls Tryz.prog 77 #[v] w fun e w' => ∃ a n c, e = .returned (.slice a n c) ∧ ((Lay.sl Lay.int).OwnIn w' [.slice a n c] zs w.heap.size w'.heap.size ∧ n = zs.length) ∧ Below w.heap.size w w' := by
  obtain ⟨ao, cap, rfl⟩ := open_sl h
  cases ao with
  | none =>
    have h0 : zs = [] := by
      by_cases hp : 0 < zs.length
      · obtain ⟨b, off, e, -⟩ := Lay.sl_addr h hp
        cases e
      · exact List.eq_nil_of_length_eq_zero (by omega)
    subst h0
    refine (clone_nil cap w).mono ?_
    rintro e w' ⟨rfl, hb⟩
    exact ⟨none, 0, 0, rfl, ⟨nil_own, rfl⟩, hb⟩
  | some ad =>
    refine (slClone ad cap zs w (Lay.ints_reads h) (by omega)).mono ?_
    rintro e w' ⟨v', rfl, O, hb⟩
    have hO := Lay.ownInts (Lay.ints_reads h).wf (by omega) O
    obtain ⟨a3, c3, rfl⟩ := open_sl hO.reads
    exact ⟨a3, _, c3, rfl, ⟨hO, rfl⟩, hb⟩

end Go.Proofs.YtkmfkaljdngigaaGreatDoor

namespace Go.Proofs.YtkmfkaljdngigaaGreatDoor
open Go.RowKit

theorem infoMsgC : (Tryz.prog.info? 29).map (fun i => (i.zero, i.size, decide (i.bytes ≤ 1000))) = some (some (.agg #[.int .i64 0, .int .i64 0, .int .i64 0, .int .i64 0, .int .i64 0, .int .i64 0, .int .i64 0, .slice none 0 0, .int .i64 0, .int .i64 0]), 10, true) := by kernel_rfl
theorem wf_Msg {w : World} {cs : List Value} {x : DMsg} (h : Lay.tMsg.Reads w cs x) : (Lit.int .i64 x.kind).wf = true ∧ (Lit.int .i64 x.epoch).wf = true ∧ (Lit.int .i64 x.src).wf = true ∧ (Lit.int .i64 x.dst).wf = true ∧ (Lit.int .i64 x.index).wf = true ∧ (Lit.int .i64 x.write.kind).wf = true ∧ (Lit.int .i64 x.write.id).wf = true ∧ (Lit.int .i64 x.write.session).wf = true ∧ (Lit.int .i64 x.write.seq).wf = true := by
  obtain ⟨bl, h⟩ := h
  obtain ⟨a7, d7, b7, -, -, w0, w1, w2, w3, w4, w5, w6, -, w8, w9⟩ := lies_Msg.1 h
  exact ⟨w0, w1, w2, w3, w4, w5, w6, w8, w9⟩
theorem own_msgC {w : World} {x : DMsg} {v : Value} {lo hi : Nat} (h : (Lay.sl Lay.int).OwnIn w [v] x.write.vec lo hi) (hw : (Lit.int .i64 x.kind).wf = true ∧ (Lit.int .i64 x.epoch).wf = true ∧ (Lit.int .i64 x.src).wf = true ∧ (Lit.int .i64 x.dst).wf = true ∧ (Lit.int .i64 x.index).wf = true ∧ (Lit.int .i64 x.write.kind).wf = true ∧ (Lit.int .i64 x.write.id).wf = true ∧ (Lit.int .i64 x.write.session).wf = true ∧ (Lit.int .i64 x.write.seq).wf = true) : Lay.tMsg.OwnIn w [.int .i64 x.kind, .int .i64 x.epoch, .int .i64 x.src, .int .i64 x.dst, .int .i64 x.index, .int .i64 x.write.kind, .int .i64 x.write.id, v, .int .i64 x.write.session, .int .i64 x.write.seq] x lo hi := by
  obtain ⟨bl, O, i⟩ := h
  obtain ⟨w0, w1, w2, w3, w4, w5, w6, w8, w9⟩ := hw
  exact ⟨bl, mkOwn_Msg (mkOwn_Write O w5 w6 w8 w9 O.2.1) w0 w1 w2 w3 w4 O.2.1, i⟩
theorem vecM {w : World} {x : DMsg} {a : Option Addr} {d : Nat} (h : Lay.tMsg.Reads w [.int .i64 x.kind, .int .i64 x.epoch, .int .i64 x.src, .int .i64 x.dst, .int .i64 x.index, .int .i64 x.write.kind, .int .i64 x.write.id, .slice a x.write.vec.length d, .int .i64 x.write.session, .int .i64 x.write.seq] x) : (Lay.sl Lay.int).Reads w [.slice a x.write.vec.length d] x.write.vec := by
  obtain ⟨bl, h⟩ := h
  obtain ⟨a7, d7, b7, e, -, -, -, -, -, -, -, -, l, -⟩ := lies_Msg.1 h
  simp only [List.cons.injEq, Value.slice.injEq, and_true, true_and] at e
  obtain ⟨rfl, rfl⟩ := e
  exact ⟨b7, l⟩
set_option maxRecDepth 10000 in
set_option maxHeartbeats 2000000 in
theorem copiedMsgC (cs : List Value) (x : DMsg) (w : World) (h : Lay.tMsg.Reads w cs x) (hn : x.write.vec.length ≤ 10000000) :
    Calls Tryz.prog 51 #[.agg cs.toArray] w fun e w' => ∃ a3 c3, e = .returned (.agg #[.int .i64 x.kind, .int .i64 x.epoch, .int .i64 x.src, .int .i64 x.dst, .int .i64 x.index, .int .i64 x.write.kind, .int .i64 x.write.id, .slice a3 x.write.vec.length c3, .int .i64 x.write.session, .int .i64 x.write.seq]) ∧ Lay.tMsg.OwnIn w' [.int .i64 x.kind, .int .i64 x.epoch, .int .i64 x.src, .int .i64 x.dst, .int .i64 x.index, .int .i64 x.write.kind, .int .i64 x.write.id, .slice a3 x.write.vec.length c3, .int .i64 x.write.session, .int .i64 x.write.seq] x (w.heap.size + 2) w'.heap.size ∧ Below w.heap.size w w' := by
  have HV := hide (wf_Msg h)
  obtain ⟨a, d, rfl, -⟩ := open_Msg h
  have HR0 := hide (vecM h)
  clear h
  have nb1 : Below w.heap.size w (w.alloc (.cells #[.int .i64 x.kind, .int .i64 x.epoch, .int .i64 x.src, .int .i64 x.dst, .int .i64 x.index, .int .i64 x.write.kind, .int .i64 x.write.id, .slice a x.write.vec.length d, .int .i64 x.write.session, .int .i64 x.write.seq] 29)) := (Below.refl _ _).alloc (Nat.le_refl _) _
  have x1 : Box 0 #[.int .i64 x.kind, .int .i64 x.epoch, .int .i64 x.src, .int .i64 x.dst, .int .i64 x.index, .int .i64 x.write.kind, .int .i64 x.write.id, .slice a x.write.vec.length d, .int .i64 x.write.session, .int .i64 x.write.seq] 29 (w.alloc (.cells #[.int .i64 x.kind, .int .i64 x.epoch, .int .i64 x.src, .int .i64 x.dst, .int .i64 x.index, .int .i64 x.write.kind, .int .i64 x.write.id, .slice a x.write.vec.length d, .int .i64 x.write.session, .int .i64 x.write.seq] 29)) w.heap.size := newBox (Nat.zero_le _)
  have s1 : (w.alloc (.cells #[.int .i64 x.kind, .int .i64 x.epoch, .int .i64 x.src, .int .i64 x.dst, .int .i64 x.index, .int .i64 x.write.kind, .int .i64 x.write.id, .slice a x.write.vec.length d, .int .i64 x.write.session, .int .i64 x.write.seq] 29)).heap.size = w.heap.size + 1 := by simp
  have r1 := (unhide HR0).later nb1
  generalize hA1 : w.alloc (.cells #[.int .i64 x.kind, .int .i64 x.epoch, .int .i64 x.src, .int .i64 x.dst, .int .i64 x.index, .int .i64 x.write.kind, .int .i64 x.write.id, .slice a x.write.vec.length d, .int .i64 x.write.session, .int .i64 x.write.seq] 29) = A1 at *
  have nb2 : Below A1.heap.size A1 (A1.alloc (.cells #[.int .i64 0, .int .i64 0, .int .i64 0, .int .i64 0, .int .i64 0, .int .i64 0, .int .i64 0, .slice none 0 0, .int .i64 0, .int .i64 0] 29)) := (Below.refl _ _).alloc (Nat.le_refl _) _
  have x2 : Box 0 #[.int .i64 0, .int .i64 0, .int .i64 0, .int .i64 0, .int .i64 0, .int .i64 0, .int .i64 0, .slice none 0 0, .int .i64 0, .int .i64 0] 29 (A1.alloc (.cells #[.int .i64 0, .int .i64 0, .int .i64 0, .int .i64 0, .int .i64 0, .int .i64 0, .int .i64 0, .slice none 0 0, .int .i64 0, .int .i64 0] 29)) A1.heap.size := newBox (Nat.zero_le _)
  have s2 : (A1.alloc (.cells #[.int .i64 0, .int .i64 0, .int .i64 0, .int .i64 0, .int .i64 0, .int .i64 0, .int .i64 0, .slice none 0 0, .int .i64 0, .int .i64 0] 29)).heap.size = A1.heap.size + 1 := by simp
  replace x1 := x1.keep nb2
  have r2 := r1.later nb2
  have B2 : Below w.heap.size w (A1.alloc (.cells #[.int .i64 0, .int .i64 0, .int .i64 0, .int .i64 0, .int .i64 0, .int .i64 0, .int .i64 0, .slice none 0 0, .int .i64 0, .int .i64 0] 29)) := nb1.trans (nb2.mono (by omega))
  rw [s1] at x2 s2
  have HB := hide B2
  have HX1 := hide x1
  have HX2 := hide x2
  have HR := hide r2
  have HS := hide s2
  subst hA1
  clear nb1 nb2 x1 x2 r1 r2 B2 s1 s2 HR0
  go_enter Tryz.func51, Tryz.ntmps51
  go_upto_region 1 with fail
  generalize (w.alloc (.cells #[.int .i64 x.kind, .int .i64 x.epoch, .int .i64 x.src, .int .i64 x.dst, .int .i64 x.index, .int .i64 x.write.kind, .int .i64 x.write.id, .slice a x.write.vec.length d, .int .i64 x.write.session, .int .i64 x.write.seq] 29)).alloc (.cells #[.int .i64 0, .int .i64 0, .int .i64 0, .int .i64 0, .int .i64 0, .int .i64 0, .int .i64 0, .slice none 0 0, .int .i64 0, .int .i64 0] 29) = W1 at *
  have HL := hide (cloneC _ x.write.vec W1 (unhide HR) hn)
  have y7 : W1.cell? ⟨w.heap.size, 7, none⟩ = some (.slice a x.write.vec.length d) := (unhide HX1).at 7 _ rfl
  go_wp2_with fail
  refine (unhide HL).mono ?_
  rintro e W2 ⟨a3, n3, c3, rfl, ⟨O, hn3⟩, hb⟩
  subst hn3
  have hx1 := (unhide HX1).keep hb
  have hx2 := (unhide HX2).keep hb
  have hB2 := (unhide HB).trans (hb.mono (unhide HB).size)
  have hs2 := unhide HS
  have hz2 := hb.size
  clear HX1 HX2 HB HR HS HL y7 hb
  have y0 : W2.cell? ⟨w.heap.size, 0, none⟩ = some (.int .i64 x.kind) := (hx1).at 0 _ rfl
  have y1 : W2.cell? ⟨w.heap.size, 1, none⟩ = some (.int .i64 x.epoch) := (hx1).at 1 _ rfl
  have y2 : W2.cell? ⟨w.heap.size, 2, none⟩ = some (.int .i64 x.src) := (hx1).at 2 _ rfl
  have y3 : W2.cell? ⟨w.heap.size, 3, none⟩ = some (.int .i64 x.dst) := (hx1).at 3 _ rfl
  have y4 : W2.cell? ⟨w.heap.size, 4, none⟩ = some (.int .i64 x.index) := (hx1).at 4 _ rfl
  have y5 : W2.cell? ⟨w.heap.size, 5, none⟩ = some (.int .i64 x.write.kind) := (hx1).at 5 _ rfl
  have y6 : W2.cell? ⟨w.heap.size, 6, none⟩ = some (.int .i64 x.write.id) := (hx1).at 6 _ rfl
  have y7 : W2.cell? ⟨w.heap.size, 7, none⟩ = some (.slice a x.write.vec.length d) := (hx1).at 7 _ rfl
  have y8 : W2.cell? ⟨w.heap.size, 8, none⟩ = some (.int .i64 x.write.session) := (hx1).at 8 _ rfl
  have y9 : W2.cell? ⟨w.heap.size, 9, none⟩ = some (.int .i64 x.write.seq) := (hx1).at 9 _ rfl
  have yf := hx1.soft
  have yl := hx1.lt
  have v0 : W2.cell? ⟨w.heap.size + 1, 0, none⟩ = some (.int .i64 0) := (hx2).at 0 _ rfl
  have v1 : W2.cell? ⟨w.heap.size + 1, 1, none⟩ = some (.int .i64 0) := (hx2).at 1 _ rfl
  have v2 : W2.cell? ⟨w.heap.size + 1, 2, none⟩ = some (.int .i64 0) := (hx2).at 2 _ rfl
  have v3 : W2.cell? ⟨w.heap.size + 1, 3, none⟩ = some (.int .i64 0) := (hx2).at 3 _ rfl
  have v4 : W2.cell? ⟨w.heap.size + 1, 4, none⟩ = some (.int .i64 0) := (hx2).at 4 _ rfl
  have v5 : W2.cell? ⟨w.heap.size + 1, 5, none⟩ = some (.int .i64 0) := (hx2).at 5 _ rfl
  have v6 : W2.cell? ⟨w.heap.size + 1, 6, none⟩ = some (.int .i64 0) := (hx2).at 6 _ rfl
  have v7 : W2.cell? ⟨w.heap.size + 1, 7, none⟩ = some (.slice none 0 0) := (hx2).at 7 _ rfl
  have v8 : W2.cell? ⟨w.heap.size + 1, 8, none⟩ = some (.int .i64 0) := (hx2).at 8 _ rfl
  have v9 : W2.cell? ⟨w.heap.size + 1, 9, none⟩ = some (.int .i64 0) := (hx2).at 9 _ rfl
  have vf := hx2.soft
  have vl := hx2.lt
  have E1 : Ext (fun q => q = w.heap.size) W2 (W2.setCell ⟨w.heap.size, 7, none⟩ (.slice a3 x.write.vec.length c3)) := (Ext.refl (fun q => q = w.heap.size) _).setCell ⟨w.heap.size, 7, none⟩ _ rfl
  have B3 : Below w.heap.size w (W2.setCell ⟨w.heap.size, 7, none⟩ (.slice a3 x.write.vec.length c3)) := hB2.setCell (by simp) _
  have O3 := O.ext E1 (fun q h1 h2 h3 => by omega)
  have O4 := own_store' (s := w.heap.size + 1) (vs := [.int .i64 x.kind, .int .i64 x.epoch, .int .i64 x.src, .int .i64 x.dst, .int .i64 x.index, .int .i64 x.write.kind, .int .i64 x.write.id, .slice a3 x.write.vec.length c3, .int .i64 x.write.session, .int .i64 x.write.seq]) O3 (by omega)
  have HO := hide (own_msgC O4 (unhide HV))
  have HB4 := hide (below_setAll B3 (w.heap.size + 1) 0 [.int .i64 x.kind, .int .i64 x.epoch, .int .i64 x.src, .int .i64 x.dst, .int .i64 x.index, .int .i64 x.write.kind, .int .i64 x.write.id, .slice a3 x.write.vec.length c3, .int .i64 x.write.session, .int .i64 x.write.seq] (by omega))
  have HZ : Hid ((setAll (W2.setCell ⟨w.heap.size, 7, none⟩ (.slice a3 x.write.vec.length c3)) (w.heap.size + 1) 0 [.int .i64 x.kind, .int .i64 x.epoch, .int .i64 x.src, .int .i64 x.dst, .int .i64 x.index, .int .i64 x.write.kind, .int .i64 x.write.id, .slice a3 x.write.vec.length c3, .int .i64 x.write.session, .int .i64 x.write.seq]).heap.size = W2.heap.size) := by
    refine (size_setAll _ _ _ _).trans ?_
    simp
  have hq : W1.heap.size = w.heap.size + 2 := by omega
  have HQ := hide hq
  clear O O3 O4 E1 B3 hB2 HV hq hx1 hx2 hs2
  go_wp2_with fail
  refine bodyPost_ret (v := .agg #[.int .i64 x.kind, .int .i64 x.epoch, .int .i64 x.src, .int .i64 x.dst, .int .i64 x.index, .int .i64 x.write.kind, .int .i64 x.write.id, .slice a3 x.write.vec.length c3, .int .i64 x.write.session, .int .i64 x.write.seq]) (by simp [results, Tryz.results51, go_sem, v0, v1, v2, v3, v4, v5, v6, v7, v8, v9]) rfl ?_
  refine ⟨a3, c3, rfl, ?_, unhide HB4⟩
  have h9 := unhide HO
  rw [unhide HQ] at h9
  exact h9.mono (Nat.le_refl _) (Nat.le_of_eq (unhide HZ).symm)
/-- What the copy of a list is: rows of the call's own, each message in memory of its own. -/
def CopyKit (w w' : World) (g : Nat) (xs : List DMsg) : Prop := g = w.heap.size ∧ ∃ (rows : List (List Value)) (hi : Nat), w'.ownsRow w.heap.size 29 10 (.slice (some ⟨g, 0, none⟩) xs.length xs.length) xs.length rows.flatten ∧ Lay.Subs Lay.tMsg w' rows xs (w.heap.size + 1) hi ∧ hi ≤ w'.heap.size ∧ w.heap.size < hi
set_option maxRecDepth 10000 in
set_option maxHeartbeats 4000000 in
theorem copiedMsgsC (v : Value) (xs : List DMsg) (w : World) (h : (Lay.sl Lay.tMsg).Reads w [v] xs) (hlen : xs.length ≤ 1000000) (hv : ∀ x ∈ xs, x.write.vec.length ≤ 10000000) :
    Calls Tryz.prog 46 #[v] w fun e w' => ∃ (g : Nat), e = .returned (.slice (some ⟨g, 0, none⟩) xs.length xs.length) ∧ (Lay.sl Lay.tMsg).OwnIn w' [.slice (some ⟨g, 0, none⟩) xs.length xs.length] xs w.heap.size w'.heap.size ∧ Below w.heap.size w w' ∧ CopyKit w w' g xs := by
  have hbig := h.big
  obtain ⟨ao, cap, rfl⟩ := open_sl h
  obtain ⟨i0, hi, hz0, hz1, hz2⟩ : ∃ i, Tryz.prog.info? 29 = some i ∧ i.zero = some (.agg #[.int .i64 0, .int .i64 0, .int .i64 0, .int .i64 0, .int .i64 0, .int .i64 0, .int .i64 0, .slice none 0 0, .int .i64 0, .int .i64 0]) ∧ i.size = 10 ∧ i.bytes ≤ 1000 := by
    have := infoMsgC
    cases hq : Tryz.prog.info? 29 with
    | none => rw [hq] at this; simp at this
    | some i =>
      rw [hq] at this
      simp only [Option.map_some, Option.some.injEq, Prod.mk.injEq, decide_eq_true_eq] at this
      exact ⟨i, rfl, this.1, this.2.1, this.2.2⟩
  have H := hide h
  have HN := hide hv
  clear h hv
  go_enter Tryz.func46, Tryz.ntmps46
  go_wp2_with (at_make; refine wpList_make_full _ rfl _ _ 24 rfl w.heap.size 29 i0 _ 10 Tryz.underlying24 hi hz0 hz1 _ _ _ _ xs.length rfl rfl rfl rfl ?c1 ?c2 ?c3 ?_)
  case c1 => have := Nat.mul_le_mul hz2 hlen; omega
  case c2 => unfold maxLen; omega
  case c3 => exact Nat.le_refl _
  intro w1 hown1 hgrow1
  have hB1 : Below w.heap.size w w1 := (Below.refl _ _).grown hgrow1 (Nat.le_refl _) (by simp)
  clear hgrow1 hi hz0 hz1 hz2
  have HO1 := hide hown1
  have HB1 := hide hB1
  clear hown1 hB1
  go_wp2_with fail
  go_loopw [11] (fun i wr => ∃ (k : Nat) (rows : List (List Value)) (Q : List Value) (hi : Nat), k ≤ xs.length ∧ i = .int .i64 k ∧ wr.ownsRow w.heap.size 29 10 (.slice (some ⟨w.heap.size, 0, none⟩) xs.length xs.length) xs.length (rows.flatten ++ Q) ∧ Q.length = (xs.length - k) * 10 ∧ Lay.Subs Lay.tMsg wr rows (xs.take k) (w.heap.size + 1) hi ∧ hi ≤ wr.heap.size ∧ w.heap.size < hi ∧ Below w.heap.size w wr) (fun i _ => xs.length - (intOf i).toNat)
  case atStart =>
    have hl := ((unhide HO1).lt w.heap.size rfl).2
    exact ⟨0, [], _, w1.heap.size, Nat.zero_le _, rfl, by simpa using unhide HO1, by have := (unhide HO1).1; simpa using this, Lay.subs_nil, Nat.le_refl _, hl, unhide HB1⟩
  case round =>
    obtain ⟨k, rows, Q, hi, hk, rfl, hown, hQ, hsub, hhi, hlo, hB⟩ := hrel
    clear HO1 HB1
    by_cases hlt : k < xs.length
    · obtain ⟨b, off, rfl, hbl⟩ := Lay.sl_addr (unhide H) (by omega)
      obtain ⟨row, hc, hr⟩ := Lay.row_at (unhide H) hlt
      replace hr := hr.later hB
      have hr2 := hr
      obtain ⟨a, d, rfl, -⟩ := open_Msg hr2
      have c0 : wr.cell? ⟨b, off + k * 10, none⟩ = some (.int .i64 (xs[k]).kind) := (hB.cell (p := ⟨b, off + k * 10, none⟩) hbl).trans (hc 0 (by decide))
      have c1 : wr.cell? ⟨b, off + k * 10 + 1, none⟩ = some (.int .i64 (xs[k]).epoch) := (hB.cell (p := ⟨b, off + k * 10 + 1, none⟩) hbl).trans (hc 1 (by decide))
      have c2 : wr.cell? ⟨b, off + k * 10 + 2, none⟩ = some (.int .i64 (xs[k]).src) := (hB.cell (p := ⟨b, off + k * 10 + 2, none⟩) hbl).trans (hc 2 (by decide))
      have c3 : wr.cell? ⟨b, off + k * 10 + 3, none⟩ = some (.int .i64 (xs[k]).dst) := (hB.cell (p := ⟨b, off + k * 10 + 3, none⟩) hbl).trans (hc 3 (by decide))
      have c4 : wr.cell? ⟨b, off + k * 10 + 4, none⟩ = some (.int .i64 (xs[k]).index) := (hB.cell (p := ⟨b, off + k * 10 + 4, none⟩) hbl).trans (hc 4 (by decide))
      have c5 : wr.cell? ⟨b, off + k * 10 + 5, none⟩ = some (.int .i64 (xs[k]).write.kind) := (hB.cell (p := ⟨b, off + k * 10 + 5, none⟩) hbl).trans (hc 5 (by decide))
      have c6 : wr.cell? ⟨b, off + k * 10 + 6, none⟩ = some (.int .i64 (xs[k]).write.id) := (hB.cell (p := ⟨b, off + k * 10 + 6, none⟩) hbl).trans (hc 6 (by decide))
      have c7 : wr.cell? ⟨b, off + k * 10 + 7, none⟩ = some (.slice a (xs[k]).write.vec.length d) := (hB.cell (p := ⟨b, off + k * 10 + 7, none⟩) hbl).trans (hc 7 (by decide))
      have c8 : wr.cell? ⟨b, off + k * 10 + 8, none⟩ = some (.int .i64 (xs[k]).write.session) := (hB.cell (p := ⟨b, off + k * 10 + 8, none⟩) hbl).trans (hc 8 (by decide))
      have c9 : wr.cell? ⟨b, off + k * 10 + 9, none⟩ = some (.int .i64 (xs[k]).write.seq) := (hB.cell (p := ⟨b, off + k * 10 + 9, none⟩) hbl).trans (hc 9 (by decide))
      have hrl : rows.flatten.length = k * 10 := by have := (Lay.subs_len hsub).1; rw [List.length_take, Nat.min_eq_left hk] at this; exact this
      have hvl := unhide HN xs[k] (List.getElem_mem hlt)
      have HT : Hid (xs.take (k + 1) = xs.take k ++ [xs[k]]) := List.take_succ_eq_append_getElem hlt
      have HB := hide hB
      have HO := hide hown
      have HS := hide hsub
      have HQ := hide hQ
      have HRM := hide hr
      clear hB hr hc hown hsub hQ hr2
      generalize hxk : xs[k] = x at *
      clear hxk
      have hbr : b < wr.heap.size := Nat.lt_of_lt_of_le hbl (unhide HB).size
      have nb : Below wr.heap.size wr (wr.alloc (.cells #[.int .i64 x.kind, .int .i64 x.epoch, .int .i64 x.src, .int .i64 x.dst, .int .i64 x.index, .int .i64 x.write.kind, .int .i64 x.write.id, .slice a x.write.vec.length d, .int .i64 x.write.session, .int .i64 x.write.seq] 29)) := (Below.refl _ _).alloc (Nat.le_refl _) _
      have hz0 : (wr.alloc (.cells #[.int .i64 x.kind, .int .i64 x.epoch, .int .i64 x.src, .int .i64 x.dst, .int .i64 x.index, .int .i64 x.write.kind, .int .i64 x.write.id, .slice a x.write.vec.length d, .int .i64 x.write.session, .int .i64 x.write.seq] 29)).heap.size = wr.heap.size + 1 := by simp
      have HL := hide (copiedMsgC _ x _ ((unhide HRM).later nb) hvl)
      have HNB := hide nb
      have HZ0 := hide hz0
      clear nb hz0 HRM
      go_wp2_with fail
      clear c0 c1 c2 c3 c4 c5 c6 c7 c8 c9
      refine (unhide HL).mono ?_
      generalize hW0 : wr.alloc (.cells #[.int .i64 x.kind, .int .i64 x.epoch, .int .i64 x.src, .int .i64 x.dst, .int .i64 x.index, .int .i64 x.write.kind, .int .i64 x.write.id, .slice a x.write.vec.length d, .int .i64 x.write.session, .int .i64 x.write.seq] 29) = W0 at *
      clear hW0
      rintro e w2 ⟨a3, c3, rfl, O, hb⟩
      have hz0 := unhide HZ0
      have hz2 : W0.heap.size ≤ w2.heap.size := hb.size
      have hb3 : Below wr.heap.size wr w2 := (unhide HNB).trans (hb.mono (unhide HNB).size)
      have o2 := own_below (unhide HO) hb3
      replace HS := hide (Lay.subs_snoc (Lay.subs_ext (unhide HS) (ext_of_below hb3 nowhere) (fun _ _ _ h => h)) O (by omega) (by omega) (by omega))
      have hb2 := (unhide HB).trans (hb3.mono (unhide HB).size)
      have hxw : w.heap.size < wr.heap.size := by omega
      clear hb HB HO O HNB HL hb3 HZ0
      have hQ := unhide HQ
      have hl5 : (rows.flatten ++ Q).length = xs.length * 10 := o2.1
      obtain ⟨u0, g0⟩ : ∃ u, w2.cell? ⟨w.heap.size, k * 10, none⟩ = some u := by
        rw [o2.cellAt (k * 10) (by omega)]
        exact ⟨_, List.getElem?_eq_getElem (by omega)⟩
      have t0 := o2.frozenAt (k * 10)
      obtain ⟨u1, g1⟩ : ∃ u, w2.cell? ⟨w.heap.size, k * 10 + 1, none⟩ = some u := by
        rw [o2.cellAt (k * 10 + 1) (by omega)]
        exact ⟨_, List.getElem?_eq_getElem (by omega)⟩
      have t1 := o2.frozenAt (k * 10 + 1)
      obtain ⟨u2, g2⟩ : ∃ u, w2.cell? ⟨w.heap.size, k * 10 + 2, none⟩ = some u := by
        rw [o2.cellAt (k * 10 + 2) (by omega)]
        exact ⟨_, List.getElem?_eq_getElem (by omega)⟩
      have t2 := o2.frozenAt (k * 10 + 2)
      obtain ⟨u3, g3⟩ : ∃ u, w2.cell? ⟨w.heap.size, k * 10 + 3, none⟩ = some u := by
        rw [o2.cellAt (k * 10 + 3) (by omega)]
        exact ⟨_, List.getElem?_eq_getElem (by omega)⟩
      have t3 := o2.frozenAt (k * 10 + 3)
      obtain ⟨u4, g4⟩ : ∃ u, w2.cell? ⟨w.heap.size, k * 10 + 4, none⟩ = some u := by
        rw [o2.cellAt (k * 10 + 4) (by omega)]
        exact ⟨_, List.getElem?_eq_getElem (by omega)⟩
      have t4 := o2.frozenAt (k * 10 + 4)
      obtain ⟨u5, g5⟩ : ∃ u, w2.cell? ⟨w.heap.size, k * 10 + 5, none⟩ = some u := by
        rw [o2.cellAt (k * 10 + 5) (by omega)]
        exact ⟨_, List.getElem?_eq_getElem (by omega)⟩
      have t5 := o2.frozenAt (k * 10 + 5)
      obtain ⟨u6, g6⟩ : ∃ u, w2.cell? ⟨w.heap.size, k * 10 + 6, none⟩ = some u := by
        rw [o2.cellAt (k * 10 + 6) (by omega)]
        exact ⟨_, List.getElem?_eq_getElem (by omega)⟩
      have t6 := o2.frozenAt (k * 10 + 6)
      obtain ⟨u7, g7⟩ : ∃ u, w2.cell? ⟨w.heap.size, k * 10 + 7, none⟩ = some u := by
        rw [o2.cellAt (k * 10 + 7) (by omega)]
        exact ⟨_, List.getElem?_eq_getElem (by omega)⟩
      have t7 := o2.frozenAt (k * 10 + 7)
      obtain ⟨u8, g8⟩ : ∃ u, w2.cell? ⟨w.heap.size, k * 10 + 8, none⟩ = some u := by
        rw [o2.cellAt (k * 10 + 8) (by omega)]
        exact ⟨_, List.getElem?_eq_getElem (by omega)⟩
      have t8 := o2.frozenAt (k * 10 + 8)
      obtain ⟨u9, g9⟩ : ∃ u, w2.cell? ⟨w.heap.size, k * 10 + 9, none⟩ = some u := by
        rw [o2.cellAt (k * 10 + 9) (by omega)]
        exact ⟨_, List.getElem?_eq_getElem (by omega)⟩
      have t9 := o2.frozenAt (k * 10 + 9)
      have o3 := own_setAll o2 (k * 10) [.int .i64 x.kind, .int .i64 x.epoch, .int .i64 x.src, .int .i64 x.dst, .int .i64 x.index, .int .i64 x.write.kind, .int .i64 x.write.id, .slice a3 x.write.vec.length c3, .int .i64 x.write.session, .int .i64 x.write.seq]
      rw [show k * 10 = rows.flatten.length from hrl.symm, setFrom_app _ _ _ (by rw [hQ]; simp; have : 1 * 10 ≤ (xs.length - k) * 10 := Nat.mul_le_mul_right _ (by omega); omega), hrl] at o3
      have E : Ext (fun q => q = w.heap.size) w2 (setAll w2 w.heap.size (k * 10) [.int .i64 x.kind, .int .i64 x.epoch, .int .i64 x.src, .int .i64 x.dst, .int .i64 x.index, .int .i64 x.write.kind, .int .i64 x.write.id, .slice a3 x.write.vec.length c3, .int .i64 x.write.session, .int .i64 x.write.seq]) := ext_setAll _ (Ext.refl _ _) _ _ _ rfl
      replace HS := hide (Lay.subs_ext (unhide HS) E (fun q h1 h2 h3 => by omega))
      have HB := hide (below_setAll hb2 w.heap.size (k * 10) [.int .i64 x.kind, .int .i64 x.epoch, .int .i64 x.src, .int .i64 x.dst, .int .i64 x.index, .int .i64 x.write.kind, .int .i64 x.write.id, .slice a3 x.write.vec.length c3, .int .i64 x.write.session, .int .i64 x.write.seq] (Nat.le_refl _))
      have HZ : Hid ((setAll w2 w.heap.size (k * 10) [.int .i64 x.kind, .int .i64 x.epoch, .int .i64 x.src, .int .i64 x.dst, .int .i64 x.index, .int .i64 x.write.kind, .int .i64 x.write.id, .slice a3 x.write.vec.length c3, .int .i64 x.write.session, .int .i64 x.write.seq]).heap.size = w2.heap.size) := size_setAll _ _ _ _
      have HO : Hid ((setAll w2 w.heap.size (k * 10) [.int .i64 x.kind, .int .i64 x.epoch, .int .i64 x.src, .int .i64 x.dst, .int .i64 x.index, .int .i64 x.write.kind, .int .i64 x.write.id, .slice a3 x.write.vec.length c3, .int .i64 x.write.session, .int .i64 x.write.seq]).ownsRow w.heap.size 29 10 (.slice (some ⟨w.heap.size, 0, none⟩) xs.length xs.length) xs.length ((rows ++ [([.int .i64 x.kind, .int .i64 x.epoch, .int .i64 x.src, .int .i64 x.dst, .int .i64 x.index, .int .i64 x.write.kind, .int .i64 x.write.id, .slice a3 x.write.vec.length c3, .int .i64 x.write.session, .int .i64 x.write.seq] : List Value)]).flatten ++ Q.drop 10)) := by
        show (setAll w2 w.heap.size (k * 10) [.int .i64 x.kind, .int .i64 x.epoch, .int .i64 x.src, .int .i64 x.dst, .int .i64 x.index, .int .i64 x.write.kind, .int .i64 x.write.id, .slice a3 x.write.vec.length c3, .int .i64 x.write.session, .int .i64 x.write.seq]).ownsRow w.heap.size 29 10 (.slice (some ⟨w.heap.size, 0, none⟩) xs.length xs.length) xs.length ((rows ++ [([.int .i64 x.kind, .int .i64 x.epoch, .int .i64 x.src, .int .i64 x.dst, .int .i64 x.index, .int .i64 x.write.kind, .int .i64 x.write.id, .slice a3 x.write.vec.length c3, .int .i64 x.write.session, .int .i64 x.write.seq] : List Value)]).flatten ++ Q.drop 10)
        rw [List.flatten_append]
        simpa using o3
      have hl2 := (o2.lt w.heap.size rfl).2
      clear o3 o2 E hb2 hl5
      have hQ2 : Hid ((Q.drop 10).length = (xs.length - (k + 1)) * 10) := by
        show (Q.drop 10).length = (xs.length - (k + 1)) * 10
        rw [List.length_drop, hQ, show xs.length - k = xs.length - (k + 1) + 1 by omega, Nat.add_mul]
        omega
      have HW2 : Hid (w.heap.size < w2.heap.size) := hl2
      clear hQ HQ hz2 hz0
      go_wp2_with fail
      go_roundw
      case rel => exact ⟨k + 1, rows ++ [([.int .i64 x.kind, .int .i64 x.epoch, .int .i64 x.src, .int .i64 x.dst, .int .i64 x.index, .int .i64 x.write.kind, .int .i64 x.write.id, .slice a3 x.write.vec.length c3, .int .i64 x.write.session, .int .i64 x.write.seq] : List Value)], Q.drop 10, w2.heap.size, by omega, by go_num, unhide HO, unhide hQ2, (by rw [unhide HT]; exact unhide HS), Nat.le_of_eq (unhide HZ).symm, unhide HW2, unhide HB⟩
      case measure => simp [intOf]; omega
    · obtain rfl : k = xs.length := by omega
      have e0 : Q = [] := List.eq_nil_of_length_eq_zero (by rw [hQ]; simp)
      subst e0
      rw [List.append_nil] at hown
      rw [List.take_length] at hsub
      have HK : Hid (CopyKit w wr w.heap.size xs) := ⟨rfl, rows, hi, hown, hsub, hhi, hlo⟩
      have HO := hide (Lay.subs_done (A := Lay.tMsg) hown hsub (by omega) hhi hbig)
      have HB := hide hB
      clear hown hsub hB
      go_wp2_with fail
      go_ret
      exact ⟨_, rfl, unhide HO, unhide HB, unhide HK⟩
end Go.Proofs.YtkmfkaljdngigaaGreatDoor

namespace Go.Proofs.YtkmfkaljdngigaaGreatDoor
open Go.RowKit

/-- How work on messages ends: the messages in new memory, or a panic with the code. -/
def SentE (c : Int) (ms : List DMsg) (w w' : World) (e : Ending) : Prop :=
  (c = 0 → ∃ v', e = .returned v' ∧ (Lay.sl Lay.tMsg).OwnIn w' [v'] ms w.heap.size w'.heap.size) ∧ (c ≠ 0 → e = .panicked (wrongP c))
theorem sentE_bad {c : Int} {ms : List DMsg} {w w' : World} (h : c ≠ 0) : SentE c ms w w' (.panicked (wrongP c)) := ⟨fun q => absurd q h, fun _ => rfl⟩
theorem sentE_ok {ms : List DMsg} {w w' : World} {v : Value} (h : (Lay.sl Lay.tMsg).OwnIn w' [v] ms w.heap.size w'.heap.size) : SentE 0 ms w w' (.returned v) := ⟨fun _ => ⟨v, rfl, h⟩, fun q => absurd rfl q⟩
theorem msg_vecS {x : DMsg} (h : msgFault x = 0) : x.write.vec.length ≤ 10000000 := by
  unfold msgFault at h
  split at h
  · simp at h
  · rename_i h1
    split at h
    · simp at h
    · split at h
      · rename_i h3
        have h4 : noW x.write := Decidable.byContradiction fun q => h1 (Or.inr (Or.inr ⟨h3, q⟩))
        have := h4.2.2.2.2
        omega
      · obtain ⟨-, -, -, hk⟩ := writeFault_zero h
        rcases hk with ⟨-, hv⟩ | ⟨-, hv⟩
        · have := (vecFault_zero hv).1; omega
        · rw [hv]; simp
theorem msgs_vecS {xs : List DMsg} (h : netFault xs = 0) : ∀ x ∈ xs, x.write.vec.length ≤ 10000000 := fun x hx => msg_vecS ((netFault_zero h).2 x hx)
theorem grow_of_kit {w W W2 : World} {g : Nat} {xs : List DMsg} (h : CopyKit w W g xs) (hb : Below W.heap.size W W2) : ∃ rows bls, Grow Lay.tMsg W2 w.heap.size 29 (.slice (some ⟨g, 0, none⟩) xs.length xs.length) rows xs bls ∧ bls.flatten.Nodup ∧ g = w.heap.size ∧ ∀ b ∈ bls.flatten, w.heap.size < b ∧ b < W.heap.size ∧ ∀ o, W2.frozen? ⟨b, o, none⟩ = false := by
  obtain ⟨hg, rows, hi, own, sub, hhi, hlo⟩ := h
  obtain ⟨bls, h1, h2, h3, h4, h5, h6⟩ := Lay.subs_ext sub (ext_of_below hb nowhere) (fun _ _ _ q => q)
  refine ⟨rows, bls, ⟨own_below own hb, h1, h2, h3, fun b hm e => ?_⟩, h4, hg, fun b hm => ⟨by have := h5 b hm; omega, by have := h5 b hm; omega, h6 b hm⟩⟩
  have e1 : g = b := by simpa [Value.ownBlock] using e
  have := h5 b hm
  omega
theorem own_snocM {w1 w' : World} {base T : Nat} {v v' : Value} {rows : List (List Value)} {xs : List DMsg} {bls : List (List Nat)} {row : List Value} {x : DMsg} {bl : List Nat} {M : Nat} (hG : Grow Lay.tMsg w' base T v' (rows ++ [row]) (xs ++ [x]) (bls ++ [bl])) (e : Ext (fun q => v.ownBlock = some q) w1 w') (hnd : bls.flatten.Nodup)
    (hs : ∀ b ∈ bls.flatten, base ≤ b ∧ b < M ∧ b < w1.heap.size ∧ v.ownBlock ≠ some b ∧ ∀ o, w1.frozen? ⟨b, o, none⟩ = false) (O : Lay.tMsg.Own w1 row x bl) (hbl : ∀ b ∈ bl, base ≤ b ∧ M ≤ b ∧ v.ownBlock ≠ some b) (hn : (xs ++ [x]).length ≤ 9223372036854775807) : (Lay.sl Lay.tMsg).OwnIn w' [v'] (xs ++ [x]) base w'.heap.size := by
  refine hG.toOwn hn ?_ ?_
  · rw [List.flatten_append, List.nodup_append]
    refine ⟨hnd, by simpa using O.2.1, fun a ha b hb e => ?_⟩
    have := hs a ha
    have := hbl b (by simpa using hb)
    omega
  · intro b hb
    rw [List.flatten_append] at hb
    rcases List.mem_append.1 hb with hm | hm
    · obtain ⟨q1, q2, q3, q4, q5⟩ := hs b hm
      exact ⟨q1, fun o => (frozen_of_heap (e.block b q3 q4) o).trans (q5 o)⟩
    · have hm2 : b ∈ bl := by simpa using hm
      obtain ⟨q1, q2, q3⟩ := hbl b hm2
      exact ⟨q1, fun o => (frozen_of_heap (e.block b (Lay.tMsg.lt O.1 b hm2) q3) o).trans (O.2.2 b hm2 o)⟩
set_option maxRecDepth 10000 in
set_option maxHeartbeats 4000000 in
theorem sentC (v : Value) (xs : List DMsg) (cs : List Value) (x : DMsg) (w : World) (h : (Lay.sl Lay.tMsg).Reads w [v] xs) (hx : Lay.tMsg.Reads w cs x) :
    Calls Tryz.prog 20 #[v, .agg cs.toArray] w fun e w' => SentE (sendR xs x).code (sendR xs x).msgs w w' e ∧ Below w.heap.size w w' := by
  have hmf : ∀ (fn : Fn) (first cap : Array Value) (w : World), (Instr.makeFunc fn first cap).run Tryz.prog w = .ok (.func fn first cap) w := fun _ _ _ _ => rfl
  obtain ⟨ao, cap, rfl⟩ := open_sl h
  obtain ⟨a, d, rfl, -⟩ := open_Msg hx
  have nb : Below w.heap.size w (w.alloc (.cells #[.int .i64 x.kind, .int .i64 x.epoch, .int .i64 x.src, .int .i64 x.dst, .int .i64 x.index, .int .i64 x.write.kind, .int .i64 x.write.id, .slice a x.write.vec.length d, .int .i64 x.write.session, .int .i64 x.write.seq] 29)) := (Below.refl _ _).alloc (Nat.le_refl _) _
  have hz1 : (w.alloc (.cells #[.int .i64 x.kind, .int .i64 x.epoch, .int .i64 x.src, .int .i64 x.dst, .int .i64 x.index, .int .i64 x.write.kind, .int .i64 x.write.id, .slice a x.write.vec.length d, .int .i64 x.write.session, .int .i64 x.write.seq] 29)).heap.size = w.heap.size + 1 := by simp
  have HR := hide (h.later nb)
  have HRX := hide (hx.later nb)
  have HB := hide nb
  have HX : Hid (Box 0 #[.int .i64 x.kind, .int .i64 x.epoch, .int .i64 x.src, .int .i64 x.dst, .int .i64 x.index, .int .i64 x.write.kind, .int .i64 x.write.id, .slice a x.write.vec.length d, .int .i64 x.write.session, .int .i64 x.write.seq] 29 (w.alloc (.cells #[.int .i64 x.kind, .int .i64 x.epoch, .int .i64 x.src, .int .i64 x.dst, .int .i64 x.index, .int .i64 x.write.kind, .int .i64 x.write.id, .slice a x.write.vec.length d, .int .i64 x.write.session, .int .i64 x.write.seq] 29)) w.heap.size) := newBox (Nat.zero_le _)
  have HZ1 := hide hz1
  clear h hx nb hz1
  go_enter Tryz.func20, Tryz.ntmps20
  go_upto_region 1 with fail
  generalize w.alloc (.cells #[.int .i64 x.kind, .int .i64 x.epoch, .int .i64 x.src, .int .i64 x.dst, .int .i64 x.index, .int .i64 x.write.kind, .int .i64 x.write.id, .slice a x.write.vec.length d, .int .i64 x.write.session, .int .i64 x.write.seq] 29) = W1 at *
  have HL := hide (mustBeNetC _ xs W1 (unhide HR))
  go_wp2_with fail
  refine (unhide HL).mono ?_
  rintro e W2 ⟨he, hb⟩
  replace HB := hide ((unhide HB).trans (hb.mono (unhide HB).size))
  replace HR := hide ((unhide HR).later hb)
  replace HRX := hide ((unhide HRX).later hb)
  replace HX := hide ((unhide HX).keep hb)
  have hw2 : w.heap.size + 1 ≤ W2.heap.size := by have := hb.size; have := unhide HZ1; omega
  have HW2 := hide hw2
  clear hb HL hw2 HZ1
  by_cases hf : netFault xs = 0
  case neg =>
    rw [wrongE_bad hf] at he
    subst he
    have HF := hide (sendR_net (x := x) hf)
    have HG := hide hf
    clear hf
    go_wp2_with fail
    exact ⟨rfl, by rw [unhide HF]; exact sentE_bad (unhide HG), unhide HB⟩
  case pos =>
  rw [wrongE_ok hf] at he
  subst he
  have HF := hide hf
  have hlen := (netFault_zero hf).1
  clear hf
  have c0 : W2.cell? ⟨w.heap.size, 0, none⟩ = some (.int .i64 x.kind) := (unhide HX).at 0 _ rfl
  have c1 : W2.cell? ⟨w.heap.size, 1, none⟩ = some (.int .i64 x.epoch) := (unhide HX).at 1 _ rfl
  have c2 : W2.cell? ⟨w.heap.size, 2, none⟩ = some (.int .i64 x.src) := (unhide HX).at 2 _ rfl
  have c3 : W2.cell? ⟨w.heap.size, 3, none⟩ = some (.int .i64 x.dst) := (unhide HX).at 3 _ rfl
  have c4 : W2.cell? ⟨w.heap.size, 4, none⟩ = some (.int .i64 x.index) := (unhide HX).at 4 _ rfl
  have c5 : W2.cell? ⟨w.heap.size, 5, none⟩ = some (.int .i64 x.write.kind) := (unhide HX).at 5 _ rfl
  have c6 : W2.cell? ⟨w.heap.size, 6, none⟩ = some (.int .i64 x.write.id) := (unhide HX).at 6 _ rfl
  have c7 : W2.cell? ⟨w.heap.size, 7, none⟩ = some (.slice a x.write.vec.length d) := (unhide HX).at 7 _ rfl
  have c8 : W2.cell? ⟨w.heap.size, 8, none⟩ = some (.int .i64 x.write.session) := (unhide HX).at 8 _ rfl
  have c9 : W2.cell? ⟨w.heap.size, 9, none⟩ = some (.int .i64 x.write.seq) := (unhide HX).at 9 _ rfl
  have HL := hide (mustBeMsgC _ x W2 (unhide HRX))
  go_wp2_with fail
  clear c0 c1 c2 c3 c4 c5 c6 c7 c8 c9
  refine (unhide HL).mono ?_
  rintro e W3 ⟨he, hb⟩
  replace HB := hide ((unhide HB).trans (hb.mono (unhide HB).size))
  replace HR := hide ((unhide HR).later hb)
  replace HRX := hide ((unhide HRX).later hb)
  replace HX := hide ((unhide HX).keep hb)
  replace HW2 := hide (Nat.le_trans (unhide HW2) hb.size)
  clear hb HL
  by_cases hm : msgFault x = 0
  case neg =>
    rw [wrongE_bad hm] at he
    subst he
    replace HF := hide (sendR_msg (x := x) (unhide HF) hm)
    have HG := hide hm
    clear hm
    go_wp2_with fail
    exact ⟨rfl, by rw [unhide HF]; exact sentE_bad (unhide HG), unhide HB⟩
  case pos =>
  rw [wrongE_ok hm] at he
  subst he
  have HSR := hide (sendR_ok (unhide HF) hm)
  have hmv := msg_vecS hm
  clear hm
  have HL := hide (copiedMsgsC _ xs W3 (unhide HR) (by omega) (msgs_vecS (unhide HF)))
  have HMV := hide hmv
  clear hmv HF
  go_wp2_with fail
  refine (unhide HL).mono ?_
  rintro e W4 ⟨g, rfl, O, hb, hk⟩
  have HO := hide O
  have HK := hide hk
  have hg : g = W3.heap.size := hk.1
  have hw3 := unhide HW2
  replace HB := hide ((unhide HB).trans (hb.mono (unhide HB).size))
  replace HRX := hide ((unhide HRX).later hb)
  replace HX := hide ((unhide HX).keep hb)
  have HW3 := hide hw3
  have HG := hide hg
  clear hb HL O hk HR hw3 hg HW2
  have HL := hide (containsFuncM _ a d xs x w.heap.size W4 (unhide HO).reads (unhide HRX) (unhide HX))
  go_wp2_with fail
  refine (unhide HL).mono ?_
  rintro e W5 ⟨rfl, hb⟩
  have HB45 := hide hb
  replace HB := hide ((unhide HB).trans (hb.mono (unhide HB).size))
  replace HRX := hide ((unhide HRX).later hb)
  replace HX := hide ((unhide HX).keep hb)
  clear HL hb
  cases hany : xs.any (fun y => sameM y x)
  case true =>
    have HS := hide ((unhide HSR).trans (sendM_there hany))
    have HO5 := hide ((unhide HO).later (unhide HB45))
    have HZ := hide (unhide HB45).size
    clear hany HSR
    go_wp2_with fail
    go_ret
    refine ⟨?_, unhide HB⟩
    rw [unhide HS]
    exact sentE_ok ((unhide HO5).mono (by have := unhide HW3; omega) (unhide HZ))
  case false =>
  by_cases hfull : xs.length < 40
  case neg =>
    have HS := hide ((unhide HSR).trans (sendM_full hany (by omega)))
    have hd : decide ((xs.length : Int) < 40) = false := by simp; omega
    clear hany HSR
    go_wp2_with fail
    refine (mustF 2 _).mono ?_
    rintro e w9 ⟨rfl, h9⟩
    subst w9
    go_wp2_with fail
    exact ⟨rfl, by rw [unhide HS]; exact sentE_bad (by decide), unhide HB⟩
  case pos =>
  have HS := hide ((unhide HSR).trans (sendM_new hany hfull))
  have hd : decide ((xs.length : Int) < 40) = true := by simp; omega
  clear hany HSR
  go_wp2_with fail
  refine (mustT 2 _).mono ?_
  rintro e w9 ⟨rfl, h9⟩
  subst w9
  clear hd
  have c0 : W5.cell? ⟨w.heap.size, 0, none⟩ = some (.int .i64 x.kind) := (unhide HX).at 0 _ rfl
  have c1 : W5.cell? ⟨w.heap.size, 1, none⟩ = some (.int .i64 x.epoch) := (unhide HX).at 1 _ rfl
  have c2 : W5.cell? ⟨w.heap.size, 2, none⟩ = some (.int .i64 x.src) := (unhide HX).at 2 _ rfl
  have c3 : W5.cell? ⟨w.heap.size, 3, none⟩ = some (.int .i64 x.dst) := (unhide HX).at 3 _ rfl
  have c4 : W5.cell? ⟨w.heap.size, 4, none⟩ = some (.int .i64 x.index) := (unhide HX).at 4 _ rfl
  have c5 : W5.cell? ⟨w.heap.size, 5, none⟩ = some (.int .i64 x.write.kind) := (unhide HX).at 5 _ rfl
  have c6 : W5.cell? ⟨w.heap.size, 6, none⟩ = some (.int .i64 x.write.id) := (unhide HX).at 6 _ rfl
  have c7 : W5.cell? ⟨w.heap.size, 7, none⟩ = some (.slice a x.write.vec.length d) := (unhide HX).at 7 _ rfl
  have c8 : W5.cell? ⟨w.heap.size, 8, none⟩ = some (.int .i64 x.write.session) := (unhide HX).at 8 _ rfl
  have c9 : W5.cell? ⟨w.heap.size, 9, none⟩ = some (.int .i64 x.write.seq) := (unhide HX).at 9 _ rfl
  have HL := hide (copiedMsgC _ x W5 (unhide HRX) (unhide HMV))
  go_wp2_with fail
  clear c0 c1 c2 c3 c4 c5 c6 c7 c8 c9
  refine (unhide HL).mono ?_
  rintro e W6 ⟨a3, c3, rfl, O, hb⟩
  have hkb := (unhide HB45).trans (hb.mono (unhide HB45).size)
  obtain ⟨rows, bls, hG, hnd, -, hsub⟩ := grow_of_kit (unhide HK) hkb
  obtain ⟨bl, OM, hbl⟩ := O
  replace HB := hide ((unhide HB).trans (hb.mono (unhide HB).size))
  have hgl : ∀ q, (Value.slice (some ⟨g, 0, none⟩) xs.length xs.length).ownBlock = some q → q = W3.heap.size := fun q hq => by
    have : g = q := by simpa [Value.ownBlock] using hq
    rw [← this]; exact unhide HG
  have s45 := (unhide HB45).size
  have s56 := hb.size
  have hgw : W3.heap.size < W4.heap.size := by
    have := ((unhide HK).2)
    obtain ⟨_, _, _, _, q1, q2⟩ := this
    omega
  have hoff : ∀ b ∈ bl, (Value.slice (some ⟨g, 0, none⟩) xs.length xs.length).ownBlock ≠ some b := fun b hm e => by
    have h1 := hgl b e
    have h2 := hbl b hm
    omega
  have HSB : Hid (∀ b ∈ bls.flatten, W3.heap.size ≤ b ∧ b < W4.heap.size ∧ b < W6.heap.size ∧ (Value.slice (some ⟨g, 0, none⟩) xs.length xs.length).ownBlock ≠ some b ∧ ∀ o, W6.frozen? ⟨b, o, none⟩ = false) := fun b hm => by
    obtain ⟨q1, q2, q3⟩ := hsub b hm
    refine ⟨by omega, q2, by omega, fun e => ?_, q3⟩
    have := hgl b e
    omega
  have HBL : Hid (∀ b ∈ bl, W3.heap.size ≤ b ∧ W4.heap.size ≤ b ∧ (Value.slice (some ⟨g, 0, none⟩) xs.length xs.length).ownBlock ≠ some b) := fun b hm => ⟨by have := hbl b hm; omega, by have := hbl b hm; omega, hoff b hm⟩
  have HND := hide hnd
  have HOM := hide OM
  have hl := OM.1
  have hbase : W3.heap.size ≤ W6.heap.size := by omega
  have hn1 : xs.length + 1 ≤ 100000000 := by omega
  clear hb HL hkb hsub hbl hgl OM hnd HK HO HB45 HRX HX HMV s45 s56 hgw
  go_wp2_with (at_builtin; refine wpList_append_Msg hG hl hoff rfl _ _ rfl rfl rfl hn1 hbase ?_)
  rintro g2 cap2 W7 hG7 hb7 e7 - h67 -
  have HO7 := hide (own_snocM hG7 e7 (unhide HND) (unhide HSB) (unhide HOM) (unhide HBL) (by simp; omega))
  replace HB := hide ((unhide HB).trans (hb7.mono (by have := unhide HW3; omega)))
  clear hG7 hb7 e7 h67 HND HSB HOM HBL hG hl hoff
  go_wp2_with fail
  go_ret
  refine ⟨?_, unhide HB⟩
  rw [unhide HS]
  exact sentE_ok ((unhide HO7).mono (by have := unhide HW3; omega) (Nat.le_refl _))
end Go.Proofs.YtkmfkaljdngigaaGreatDoor

namespace Go.Proofs.YtkmfkaljdngigaaGreatDoor
open Go.RowKit

theorem send_bad {xs : List DMsg} {x : DMsg} (h : (sendR xs x).code ≠ 0) : sendR xs x = badNet (sendR xs x).code := by
  by_cases h1 : netFault xs = 0
  · by_cases h2 : msgFault x = 0
    · rw [sendR_ok h1 h2] at h ⊢
      unfold sendM at h ⊢
      split
      · rename_i q; rw [if_pos q] at h; exact absurd rfl h
      · rename_i q
        rw [if_neg q] at h
        split
        · rfl
        · rename_i q2; rw [if_neg q2] at h; exact absurd rfl h
    · rw [sendR_msg h1 h2]; rfl
  · rw [sendR_net h1]; rfl
theorem send_vals (xs : List DMsg) (x : DMsg) : 0 ≤ (sendR xs x).code ∧ (sendR xs x).code ≤ 6 := by
  have h1 := netFault_vals xs
  have h2 := msgFault_vals x
  unfold sendR
  split
  · split
    · unfold sendM
      split
      · exact ⟨by show (0 : Int) ≤ 0; omega, by show (0 : Int) ≤ 6; omega⟩
      · split
        · decide
        · exact ⟨by show (0 : Int) ≤ 0; omega, by show (0 : Int) ≤ 6; omega⟩
    · exact h2
  · exact h1
set_option maxRecDepth 10000 in
theorem sendWork (v : Value) (xs : List DMsg) (a : Option Addr) (d : Nat) (x : DMsg) (g g2 : Nat) (w : World) (h : (Lay.sl Lay.tMsg).Reads w [v] xs) (hm : Lay.tMsg.Reads w [.int .i64 x.kind, .int .i64 x.epoch, .int .i64 x.src, .int .i64 x.dst, .int .i64 x.index, .int .i64 x.write.kind, .int .i64 x.write.id, .slice a x.write.vec.length d, .int .i64 x.write.session, .int .i64 x.write.seq] x) (hx : Box 0 #[v] 24 w g) (hx2 : Box 0 #[.int .i64 x.kind, .int .i64 x.epoch, .int .i64 x.src, .int .i64 x.dst, .int .i64 x.index, .int .i64 x.write.kind, .int .i64 x.write.id, .slice a x.write.vec.length d, .int .i64 x.write.session, .int .i64 x.write.seq] 29 w g2) :
    Calls Tryz.prog 19 #[.pointer (some ⟨g, 0, none⟩), .pointer (some ⟨g2, 0, none⟩)] w fun e w' => SentE (sendR xs x).code (sendR xs x).msgs w w' e ∧ Below w.heap.size w w' := by
  have HL := hide (sentC v xs _ x w h hm)
  obtain ⟨ao, cap, rfl⟩ := open_sl h
  have z0 : w.cell? ⟨g, 0, none⟩ = some (.slice ao xs.length cap) := hx.at 0 _ rfl
  have c0 : w.cell? ⟨g2, 0, none⟩ = some (.int .i64 x.kind) := hx2.at 0 _ rfl
  have c1 : w.cell? ⟨g2, 1, none⟩ = some (.int .i64 x.epoch) := hx2.at 1 _ rfl
  have c2 : w.cell? ⟨g2, 2, none⟩ = some (.int .i64 x.src) := hx2.at 2 _ rfl
  have c3 : w.cell? ⟨g2, 3, none⟩ = some (.int .i64 x.dst) := hx2.at 3 _ rfl
  have c4 : w.cell? ⟨g2, 4, none⟩ = some (.int .i64 x.index) := hx2.at 4 _ rfl
  have c5 : w.cell? ⟨g2, 5, none⟩ = some (.int .i64 x.write.kind) := hx2.at 5 _ rfl
  have c6 : w.cell? ⟨g2, 6, none⟩ = some (.int .i64 x.write.id) := hx2.at 6 _ rfl
  have c7 : w.cell? ⟨g2, 7, none⟩ = some (.slice a x.write.vec.length d) := hx2.at 7 _ rfl
  have c8 : w.cell? ⟨g2, 8, none⟩ = some (.int .i64 x.write.session) := hx2.at 8 _ rfl
  have c9 : w.cell? ⟨g2, 9, none⟩ = some (.int .i64 x.write.seq) := hx2.at 9 _ rfl
  clear hx h hx2 hm
  go_enter Tryz.func19, Tryz.ntmps19
  go_wp2_with fail
  refine (unhide HL).mono ?_
  rintro e W2 ⟨he, hb⟩
  have HB := hide hb
  have HE := hide he
  clear hb HL z0 he
  by_cases hf : (sendR xs x).code = 0
  · obtain ⟨v2, rfl, O⟩ := (unhide HE).1 hf
    have HO := hide O
    have HF := hide hf
    clear hf HE O
    go_wp2_with fail
    go_ret
    exact ⟨by rw [unhide HF]; exact sentE_ok (unhide HO), unhide HB⟩
  · obtain rfl := (unhide HE).2 hf
    have HF := hide hf
    clear hf HE
    go_wp2_with fail
    exact ⟨rfl, sentE_bad (unhide HF), unhide HB⟩
set_option maxRecDepth 10000 in
set_option maxHeartbeats 2000000 in
theorem implSendMsg (v : Value) (xs : List DMsg) (cs : List Value) (x : DMsg) (w : World) (h : (Lay.sl Lay.tMsg).Reads w [v] xs) (hm : Lay.tMsg.Reads w cs x) :
    Calls Tryz.prog 6 #[v, .agg cs.toArray] w fun e w' => ∃ cs, e = .returned (.agg cs.toArray) ∧ Lay.tNetResult.OwnIn w' cs (sendR xs x) w.heap.size w'.heap.size ∧ Below w.heap.size w w' := by
  have hmf : ∀ (fn : Fn) (first cap : Array Value) (w : World), (Instr.makeFunc fn first cap).run Tryz.prog w = .ok (.func fn first cap) w := fun _ _ _ _ => rfl
  obtain ⟨ao, cap, rfl⟩ := open_sl h
  obtain ⟨a, d, rfl, -⟩ := open_Msg hm
  have nb1 : Below w.heap.size w (w.alloc (.cells #[.slice ao xs.length cap] 24)) := (Below.refl _ _).alloc (Nat.le_refl _) _
  have x1 : Box 0 #[.slice ao xs.length cap] 24 (w.alloc (.cells #[.slice ao xs.length cap] 24)) w.heap.size := newBox (Nat.zero_le _)
  have s1 : (w.alloc (.cells #[.slice ao xs.length cap] 24)).heap.size = w.heap.size + 1 := by simp
  have R1 := h.later nb1
  have M1 := hm.later nb1
  generalize hA1 : w.alloc (.cells #[.slice ao xs.length cap] 24) = A1 at *
  have nb2 : Below A1.heap.size A1 (A1.alloc (.cells #[.int .i64 x.kind, .int .i64 x.epoch, .int .i64 x.src, .int .i64 x.dst, .int .i64 x.index, .int .i64 x.write.kind, .int .i64 x.write.id, .slice a x.write.vec.length d, .int .i64 x.write.session, .int .i64 x.write.seq] 29)) := (Below.refl _ _).alloc (Nat.le_refl _) _
  have x2 : Box 0 #[.int .i64 x.kind, .int .i64 x.epoch, .int .i64 x.src, .int .i64 x.dst, .int .i64 x.index, .int .i64 x.write.kind, .int .i64 x.write.id, .slice a x.write.vec.length d, .int .i64 x.write.session, .int .i64 x.write.seq] 29 (A1.alloc (.cells #[.int .i64 x.kind, .int .i64 x.epoch, .int .i64 x.src, .int .i64 x.dst, .int .i64 x.index, .int .i64 x.write.kind, .int .i64 x.write.id, .slice a x.write.vec.length d, .int .i64 x.write.session, .int .i64 x.write.seq] 29)) A1.heap.size := newBox (Nat.zero_le _)
  have s2 : (A1.alloc (.cells #[.int .i64 x.kind, .int .i64 x.epoch, .int .i64 x.src, .int .i64 x.dst, .int .i64 x.index, .int .i64 x.write.kind, .int .i64 x.write.id, .slice a x.write.vec.length d, .int .i64 x.write.session, .int .i64 x.write.seq] 29)).heap.size = A1.heap.size + 1 := by simp
  replace x1 := x1.keep nb2
  have R2 := R1.later nb2
  have M2 := M1.later nb2
  generalize hA2 : A1.alloc (.cells #[.int .i64 x.kind, .int .i64 x.epoch, .int .i64 x.src, .int .i64 x.dst, .int .i64 x.index, .int .i64 x.write.kind, .int .i64 x.write.id, .slice a x.write.vec.length d, .int .i64 x.write.session, .int .i64 x.write.seq] 29) = A2 at *
  have nb3 : Below A2.heap.size A2 (A2.alloc (.cells #[.int .i64 0, .slice none 0 0] 33)) := (Below.refl _ _).alloc (Nat.le_refl _) _
  have x3 : Box 0 #[.int .i64 0, .slice none 0 0] 33 (A2.alloc (.cells #[.int .i64 0, .slice none 0 0] 33)) A2.heap.size := newBox (Nat.zero_le _)
  have s3 : (A2.alloc (.cells #[.int .i64 0, .slice none 0 0] 33)).heap.size = A2.heap.size + 1 := by simp
  replace x1 := x1.keep nb3
  replace x2 := x2.keep nb3
  have R3 := R2.later nb3
  have M3 := M2.later nb3
  have B3 : Below w.heap.size w (A2.alloc (.cells #[.int .i64 0, .slice none 0 0] 33)) := (nb1.trans (nb2.mono (by omega))).trans (nb3.mono (by omega))
  have HB := hide B3
  rw [s2, s1] at s3 x3
  rw [s1] at x2
  have HX1 := hide x1
  have HX2 := hide x2
  have HX3 := hide x3
  have HR := hide R3
  have HM := hide M3
  subst hA2
  subst hA1
  clear nb1 nb2 nb3 x1 x2 x3 R1 R2 R3 B3 s1 s2 h hm M1 M2 M3
  go_enter Tryz.func6, Tryz.ntmps6
  go_upto_region 1 with fail
  generalize ((w.alloc (.cells #[.slice ao xs.length cap] 24)).alloc (.cells #[.int .i64 x.kind, .int .i64 x.epoch, .int .i64 x.src, .int .i64 x.dst, .int .i64 x.index, .int .i64 x.write.kind, .int .i64 x.write.id, .slice a x.write.vec.length d, .int .i64 x.write.session, .int .i64 x.write.seq] 29)).alloc (.cells #[.int .i64 0, .slice none 0 0] 33) = W1 at *
  have nb : Below W1.heap.size W1 (W1.alloc (.cells #[.int .i64 0] 2)) := (Below.refl _ _).alloc (Nat.le_refl _) _
  have HW := hide (sendWork _ xs a d x w.heap.size (w.heap.size + 1) _ ((unhide HR).later nb) ((unhide HM).later nb) ((unhide HX1).keep nb) ((unhide HX2).keep nb))
  have hz : (W1.alloc (.cells #[.int .i64 0] 2)).heap.size = W1.heap.size + 1 := by simp
  have HZ := hide hz
  have HS := hide s3
  clear nb hz s3
  by_cases hf : (sendR xs x).code = 0
  · have HL := hide (faced_ok_msgs 19 #[.pointer (some ⟨w.heap.size, 0, none⟩), .pointer (some ⟨w.heap.size + 1, 0, none⟩)] W1 (fun v w' => (Lay.sl Lay.tMsg).OwnIn w' [v] (sendR xs x).msgs (W1.heap.size + 1) w'.heap.size) (fun _ => by rfl) ((unhide HW).mono (by
      rintro e w' ⟨he, hb⟩
      obtain ⟨v2, he2, O⟩ := he.1 hf
      rw [unhide HZ] at hb O
      exact ⟨v2, he2, O, hb⟩)))
    have HF : Hid (sendR xs x = ⟨0, (sendR xs x).msgs⟩) := by
      show sendR xs x = _
      rw [← hf]
    clear hf HW
    go_wp2_with fail
    refine (unhide HL).mono ?_
    rintro e W2 ⟨v, W3, rfl, O, hW, hb, -⟩
    obtain ⟨a9, d9, rfl⟩ := open_sl O.reads
    have hE : Ext (fun q => q = W1.heap.size) W3 W2 := by rw [hW]; exact (Ext.refl (fun q => q = W1.heap.size) _).setCell ⟨W1.heap.size, 0, none⟩ _ rfl
    have hsz : W3.heap.size = W2.heap.size := by rw [hW]; simp
    have hs3 := unhide HS
    have O2 := O.ext hE (fun q h1 h2 h3 => by omega)
    rw [hsz] at O2
    replace HX3 := hide ((unhide HX3).keep hb)
    replace HB := hide ((unhide HB).trans (hb.mono (unhide HB).size))
    clear hE hsz O hW
    generalize (sendR xs x).msgs = ms at *
    have z0 : W2.cell? ⟨w.heap.size + 1 + 1, 0, none⟩ = some (.int .i64 0) := (unhide HX3).at 0 _ rfl
    have z1 : W2.cell? ⟨w.heap.size + 1 + 1, 1, none⟩ = some (.slice none 0 0) := (unhide HX3).at 1 _ rfl
    have ff := (unhide HX3).soft
    have l0 := (unhide HX3).lt
    have HB2 := hide (below_setAll (unhide HB) (w.heap.size + 1 + 1) 0 [.int .i64 0, .slice a9 ms.length d9] (by omega))
    have HO2 := hide (own_store' (s := w.heap.size + 1 + 1) (vs := [.int .i64 0, .slice a9 ms.length d9]) O2 (by omega))
    have HZ2 : Hid ((setAll W2 (w.heap.size + 1 + 1) 0 [.int .i64 0, .slice a9 ms.length d9]).heap.size = W2.heap.size) := size_setAll _ _ _ _
    have HLE : Hid (w.heap.size ≤ W1.heap.size + 1) := by show w.heap.size ≤ W1.heap.size + 1; omega
    clear hb HL HX1 HX2 HX3 HR HB HZ HS O2 hs3
    go_wp2_with fail
    refine bodyPost_ret (v := .agg #[.int .i64 0, .slice a9 ms.length d9]) (by simp [results, Tryz.results6, go_sem, z0, z1]) rfl ?_
    rw [unhide HF]
    exact ⟨[_, _], rfl, own_netR (by decide) ((unhide HO2).mono (unhide HLE) (Nat.le_of_eq (unhide HZ2).symm)), unhide HB2⟩
  · have HL := hide (faced_bad_msgs 19 #[.pointer (some ⟨w.heap.size, 0, none⟩), .pointer (some ⟨w.heap.size + 1, 0, none⟩)] (sendR xs x).code W1 (fun _ => by rfl) ((unhide HW).mono (by
      rintro e w' ⟨he, hb⟩
      rw [unhide HZ] at hb
      exact ⟨he.2 hf, hb⟩)))
    have HF := hide (send_bad hf)
    have hv := send_vals xs x
    clear hf HW HZ HS
    go_wp2_with fail
    refine (unhide HL).mono ?_
    rintro e W2 ⟨rfl, hb⟩
    replace HX3 := hide ((unhide HX3).keep hb)
    replace HB := hide ((unhide HB).trans (hb.mono (unhide HB).size))
    generalize (sendR xs x).code = f at *
    have z0 : W2.cell? ⟨w.heap.size + 1 + 1, 0, none⟩ = some (.int .i64 0) := (unhide HX3).at 0 _ rfl
    have z1 : W2.cell? ⟨w.heap.size + 1 + 1, 1, none⟩ = some (.slice none 0 0) := (unhide HX3).at 1 _ rfl
    have ff := (unhide HX3).soft
    have l0 := (unhide HX3).lt
    have HB2 := hide (below_setAll (unhide HB) (w.heap.size + 1 + 1) 0 [.int .i64 f, .slice none 0 0] (by omega))
    clear hb HL HX1 HX2 HX3 HR HB
    go_wp2_with fail
    refine bodyPost_ret (v := .agg #[.int .i64 f, .slice none 0 0]) (by simp [results, Tryz.results6, go_sem, z0, z1]) rfl ?_
    rw [unhide HF]
    exact ⟨[_, _], rfl, own_badNet (by omega), unhide HB2⟩
end Go.Proofs.YtkmfkaljdngigaaGreatDoor

namespace Go.Proofs.YtkmfkaljdngigaaGreatDoor
open Go.RowKit

theorem run_append_msgs {w : World} {base : Nat} {v : Value} {rows : List (List Value)} {xs : List DMsg} {bls : List (List Nat)} (hG : Grow Lay.tMsg w base 29 v rows xs bls) {X : Value} {ys : List DMsg} (hX : (Lay.sl Lay.tMsg).LiesIn w [X] ys 0 base) (hn : xs.length + ys.length ≤ 100000000) (hbase : base ≤ w.heap.size) (ty : TypeId) :
    ∃ v' w' rows' bls', (Builtin.append_ #[24, 24] ty #[v, X]).run Tryz.prog w = .ok v' w' ∧ Grow Lay.tMsg w' base 29 v' rows' (xs ++ ys) bls' ∧ w.grownBy w' v.ownBlock ∧ (v'.ownBlock = v.ownBlock ∨ v'.ownBlock = some w.heap.size) := by
  obtain ⟨i0, hi0, hz0, hz1, hz2⟩ := info_parts infoAppMsg
  exact hG.more (fun h => (one_Msg h).1) (by decide) 24 ty i0 _ 96 Tryz.underlying24 hi0 hz0 hz1 hz2 rfl hX hn (by omega) hbase
/-- At an operation of a plain region. -/
theorem wpList_append_msgs {w : World} {base : Nat} {v : Value} {rows : List (List Value)} {xs : List DMsg} {bls : List (List Nat)} (hG : Grow Lay.tMsg w base 29 v rows xs bls) {X : Value} {ys : List DMsg} (hX : (Lay.sl Lay.tMsg).LiesIn w [X] ys 0 base) {ops : Array Oper} {rest : List Oper} {o : Oper} {a : Act} {Q : Exit → Act → World → Prop} (hgd : o.guard = none) (s y : Operand)
    (ho : o.op = .call { callee := .builtin .append, args := #[s, y], argTypes := #[24, 24] }) (hs : a.eval s = v) (hy : a.eval y = X) (hn : xs.length + ys.length ≤ 100000000) (hbase : base ≤ w.heap.size)
    (h : ∀ a' m' cap' w' rows' bls', Grow Lay.tMsg w' base 29 (.slice a' m' cap') rows' (xs ++ ys) bls' → Below base w w' → m' = xs.length + ys.length → w.heap.size ≤ w'.heap.size → wpList Tryz.prog ops Q rest (a.put o.dst (.slice a' m' cap')) w') :
    wpList Tryz.prog ops Q (o :: rest) a w := by
  refine wpList_plain hgd fun K hK => ?_
  obtain ⟨v', w', rows', bls', hr, h2, h3, h4⟩ := run_append_msgs hG hX hn hbase o.type
  unfold Oper.wp execOp
  simp only [ho, resolve, invoke, builtin, Sem.run_bind, Sem.run_pure, Result.andThen_ok, List.map_toArray, List.map_cons, List.map_nil, hs, hy, hr]
  have hbw : Below base w w' := (Below.refl _ _).grown h3 hbase (fun j hj => (hG.own.lt j hj).1)
  rcases h2.form with ⟨rfl, h0⟩ | ⟨g, cap, rfl, hg, hgl, hcap⟩
  · refine hK _ _ (h _ _ _ w' rows' bls' h2 hbw ?_ hbw.size)
    have : (xs ++ ys).length = 0 := by rw [h0]; rfl
    rw [List.length_append] at this
    omega
  · exact hK _ _ (h _ _ _ w' rows' bls' h2 hbw (by rw [List.length_append]) hbw.size)
end Go.Proofs.YtkmfkaljdngigaaGreatDoor

namespace Go.Proofs.YtkmfkaljdngigaaGreatDoor
open Go.RowKit

theorem lies_none {α : Type} {A : Lay α} {w : World} {ao : Option Addr} {c lo hi : Nat} : (Lay.sl A).LiesIn w [.slice ao 0 c] [] lo hi := ⟨[], ⟨ao, c, rfl, ⟨Nat.zero_le _, Nat.zero_le _⟩, Or.inl ⟨rfl, rfl⟩⟩, by simp⟩
theorem lies_part {α : Type} {A : Lay α} {w : World} {b off cap lo hi : Nat} {xs : List α} (h : (Lay.sl A).LiesIn w [.slice (some ⟨b, off, none⟩) xs.length cap] xs lo hi) (m n c : Nat) (hm : m + n ≤ xs.length) (hc : n ≤ c) :
    (Lay.sl A).LiesIn w [.slice (some ⟨b, off + m * A.n, none⟩) n c] ((xs.drop m).take n) lo hi := by
  obtain ⟨bl, ⟨ao, cp, e, hbig, hcase⟩, hlt⟩ := h
  simp only [List.cons.injEq, Value.slice.injEq, and_true, true_and] at e
  obtain ⟨rfl, rfl⟩ := e
  have hlen : ((xs.drop m).take n).length = n := by simp; omega
  by_cases h0 : n = 0
  · subst h0
    rw [List.take_zero]
    exact lies_none
  · rcases hcase with ⟨rfl, rfl⟩ | ⟨b2, off2, rows, bls, e2, hb, rfl, hr, hl, hj⟩
    · simp at hm; omega
    · simp only [Option.some.injEq, Addr.mk.injEq, and_true] at e2
      obtain ⟨rfl, rfl⟩ := e2
      refine ⟨b :: ((bls.drop m).take n).flatten, ⟨_, c, by rw [hlen], ⟨by rw [hlen]; exact hc, by rw [hlen]; omega⟩, Or.inr ⟨b, off + m * A.n, (rows.drop m).take n, (bls.drop m).take n, rfl, hb, rfl, by rw [hlen]; simp; omega, by rw [hlen]; simp; omega, fun j h1 h2 h3 => ?_⟩⟩, ?_⟩
      · rw [hlen] at h1
        have k := hj (m + j) (by omega) (by omega) (by omega)
        rw [List.getElem_take, List.getElem_take, List.getElem_take, List.getElem_drop, List.getElem_drop, List.getElem_drop]
        refine ⟨fun q hq => ?_, k.2⟩
        have := k.1 q hq
        rw [Nat.add_mul, ← Nat.add_assoc] at this
        exact this
      · intro c2 hc2
        refine hlt c2 ?_
        rcases List.mem_cons.1 hc2 with rfl | hc2
        · simp
        · obtain ⟨l, h1, h2⟩ := List.mem_flatten.1 hc2
          exact List.mem_cons_of_mem _ (List.mem_flatten.2 ⟨l, List.mem_of_mem_drop (List.mem_of_mem_take h1), h2⟩)
theorem lies_take {α : Type} {A : Lay α} {w : World} {b off cap lo hi : Nat} {xs : List α} (h : (Lay.sl A).LiesIn w [.slice (some ⟨b, off, none⟩) xs.length cap] xs lo hi) (n : Nat) (hn : n ≤ xs.length) :
    (Lay.sl A).LiesIn w [.slice (some ⟨b, off, none⟩) n cap] (xs.take n) lo hi := by
  have hc : xs.length ≤ cap := (Lay.Reads.cap h.reads).2
  have := lies_part h 0 n cap (by omega) (by omega)
  simpa using this
theorem lies_drop {α : Type} {A : Lay α} {w : World} {b off cap lo hi : Nat} {xs : List α} (h : (Lay.sl A).LiesIn w [.slice (some ⟨b, off, none⟩) xs.length cap] xs lo hi) (m c : Nat) (hm : m ≤ xs.length) (hc : xs.length - m ≤ c) :
    (Lay.sl A).LiesIn w [.slice (some ⟨b, off + m * A.n, none⟩) (xs.length - m) c] (xs.drop m) lo hi := by
  have := lies_part h m (xs.length - m) c (by omega) hc
  rwa [List.take_of_length_le (by simp)] at this
end Go.Proofs.YtkmfkaljdngigaaGreatDoor

namespace Go.Proofs.YtkmfkaljdngigaaGreatDoor
open Go.RowKit

theorem run_append_zeros_nilM (w : World) (k : Nat) (h0 : 0 < k) (hbig : k ≤ 100000000) (ty : TypeId) :
    ∃ G w1, (Builtin.append_ #[24, 3] ty #[.slice none 0 0, .int .i64 k]).run Tryz.prog w = .ok (.slice (some ⟨w.heap.size, 0, none⟩) k G) w1 ∧ k ≤ G ∧
      w1.ownsRow w.heap.size 29 10 (.slice (some ⟨w.heap.size, 0, none⟩) 0 G) 0 [] ∧ Below w.heap.size w w1 := by
  obtain ⟨i0, hi, hz0, hz1, hz2⟩ := info_parts infoAppMsg
  have hr := Lib.run_append_nil_zeros w 24 3 ty 29 i0 _ .i64 .i64 Tryz.underlying24 Tryz.underlying3 hi hz0 k h0 (by omega) (by omega) (by rw [hz2]; omega)
  have hge := grownCap_ge w k 0 29
  have hle := grownCap_le_maxLen w k 0 29 (by unfold maxLen; omega)
  generalize grownCap w k 0 29 = G at *
  have hzl : ∀ q, (Builtin.zeroCells (Value.agg #[.int .i64 0, .int .i64 0, .int .i64 0, .int .i64 0, .int .i64 0, .int .i64 0, .int .i64 0, .slice none 0 0, .int .i64 0, .int .i64 0]).cells q).size = q * 10 := fun q => by rw [size_zeroCells]; rfl
  refine ⟨G, _, hr, hge, ⟨rfl, .inr ⟨w.heap.size, G, _, rfl, Nat.le_refl _, heap_alloc_new w.drew _, Nat.zero_le _, hle, ?_, by simp⟩⟩, ?_⟩
  · rw [Array.size_append, hzl, hzl]
    omega
  · exact ((Below.refl _ _).drew).alloc (Nat.le_refl _) _

set_option maxRecDepth 100000 in
set_option maxHeartbeats 400000 in
theorem implGrowM (n : Nat) (w : World) (hn : n ≤ 100000000) :
    Calls Tryz.prog 82 #[.slice none 0 0, .int .i64 n] w fun e w' => ∃ r, e = .returned r ∧ w'.ownsRow w.heap.size 29 10 r 0 [] ∧ Below w.heap.size w w' := by
  have hneg : ¬ ((n : Int) < 0) := by omega
  by_cases h0 : n = 0
  · subst h0
    go_enter Tryz.func82, Tryz.ntmps82
    go_wp2_with fail
    go_ret
    exact ⟨_, rfl, World.ownsRow_nil _ _ _ _, Below.refl _ _⟩
  · obtain ⟨G, w1, hr, hG, O1, B1⟩ := run_append_zeros_nilM w n (by omega) hn 24
    have HO := hide O1
    have HB := hide B1
    have hpos : decide ((0 : Int) < (n : Int)) = true := by simp; omega
    clear O1 B1
    go_enter Tryz.func82, Tryz.ntmps82
    go_wp2_with (at_builtin; refine Lib.wpList_append_run _ rfl _ _ _ _ rfl _ _ rfl rfl _ _ hr ?_)
    go_ret
    exact ⟨_, rfl, unhide HO, unhide HB⟩

set_option maxRecDepth 100000 in
set_option maxHeartbeats 1000000 in
theorem implConcatM (vb : Nat) (u v : Value) (a b : List DMsg) (w : World) (k0 : w.cell? ⟨vb, 0, none⟩ = some u) (k1 : w.cell? ⟨vb, 1, none⟩ = some v) (ha : (Lay.sl Lay.tMsg).Reads w [u] a) (hb : (Lay.sl Lay.tMsg).Reads w [v] b) (hna : a.length ≤ 1000) (hnb : b.length ≤ 1000) :
    Calls Tryz.prog 59 #[.slice (some ⟨vb, 0, none⟩) 2 2] w fun e w' => ∃ r, e = .returned r ∧ (∃ rows bls, Grow Lay.tMsg w' w.heap.size 29 r rows (a ++ b) bls) ∧ Below w.heap.size w w' := by
  have HA := hide ha.liesIn
  have HBv := hide hb.liesIn
  obtain ⟨au, cu, rfl⟩ := open_sl ha
  obtain ⟨av, cv, rfl⟩ := open_sl hb
  have HVB := hide (World.block_lt_of_cell? _ _ k1)
  have HK1 := hide k1
  have hn1 : ¬ ((a.length : Int) < 0) := by omega
  have hn2 : ¬ ((a.length : Int) + (b.length : Int) < 0) := by omega
  clear ha hb
  go_enter Tryz.func59, Tryz.ntmps59
  go_wp2_with fail
  refine wp_loop_rounds 3 ?_
  rw [rounds_succ]
  go_wp2_with fail
  rw [rounds_succ]
  go_wp2_with fail
  rw [rounds_succ]
  go_wp2_with fail
  have e1 : (a.length : Int) + (b.length : Int) = ((a.length + b.length : Nat) : Int) := by omega
  rw [e1]
  refine (implGrowM (a.length + b.length) _ (by omega)).mono ?_
  rintro e w1 ⟨r, rfl, O1, B1⟩
  obtain ⟨a1, c1, rfl⟩ := own_shape O1
  have hvb := unhide HVB
  replace k0 : w1.cell? ⟨vb, 0, none⟩ = some _ := (B1.cell (p := ⟨vb, 0, none⟩) hvb).trans k0
  replace k1 : w1.cell? ⟨vb, 1, none⟩ = some _ := (B1.cell (p := ⟨vb, 1, none⟩) hvb).trans k1
  have I1 := (unhide HA).later B1
  have G1 : Grow Lay.tMsg w1 w.heap.size 29 (.slice a1 0 c1) [] [] [] := Grow.nil O1
  have HB1 := hide B1
  have hs1 := B1.size
  have hna1 : ([] : List DMsg).length + a.length ≤ 100000000 := by simp; omega
  clear B1 e1 O1
  go_wp2_with fail
  refine wp_loop_rounds 3 ?_
  rw [rounds_succ]
  go_wp2_with (at_builtin; refine wpList_append_msgs G1 I1 rfl _ _ rfl rfl rfl hna1 hs1 ?_)
  intro a2 m2 c2 w2 rows2 bls2 G2 B12 hm2 _
  have B2 : Below w.heap.size w w2 := (unhide HB1).trans B12
  have k2 : w2.cell? ⟨vb, 1, none⟩ = some (.slice av b.length cv) := (B2.cell (p := ⟨vb, 1, none⟩) hvb).trans (unhide HK1)
  have I2 := (unhide HBv).later B2
  have hs2 := B2.size
  have HB2 := hide B2
  have hnb2 : ([] ++ a).length + b.length ≤ 100000000 := by simp; omega
  clear G1 I1 B12 k0 k1 B2 hs1 HB1 hm2
  go_wp2_with fail
  rw [rounds_succ]
  go_wp2_with (at_builtin; refine wpList_append_msgs G2 I2 rfl _ _ rfl rfl rfl hnb2 hs2 ?_)
  intro a3 m3 c3 w3 rows3 bls3 G3 B23 hm3 _
  have HG3 := hide G3
  have HB3 := hide ((unhide HB2).trans B23)
  clear G2 I2 k2 B23 G3 HB2 hm3
  go_wp2_with fail
  rw [rounds_succ]
  go_wp2_with fail
  go_ret
  exact ⟨_, rfl, ⟨rows3, bls3, unhide HG3⟩, unhide HB3⟩

end Go.Proofs.YtkmfkaljdngigaaGreatDoor

namespace Go.Proofs.YtkmfkaljdngigaaGreatDoor
open Go.RowKit

theorem dropMR_net {xs : List DMsg} {z : Int} (h : netFault xs ≠ 0) : dropMR xs z = badNet (netFault xs) := by rw [dropMR, if_neg h]
theorem dropMR_out {xs : List DMsg} {z : Int} (h : netFault xs = 0) (h2 : (decide (0 ≤ z) && decide (z ≤ (xs.length : Int) - 1)) = false) : dropMR xs z = badNet 3 := by
  rw [dropMR, if_pos h, if_neg]
  intro q
  simp at h2
  omega
theorem dropMR_in {xs : List DMsg} {k : Nat} (h : netFault xs = 0) (h2 : k < xs.length) : dropMR xs (k : Int) = ⟨0, xs.take k ++ xs.drop (k + 1)⟩ := by
  rw [dropMR, if_pos h, if_pos (by omega)]
  simp
end Go.Proofs.YtkmfkaljdngigaaGreatDoor
