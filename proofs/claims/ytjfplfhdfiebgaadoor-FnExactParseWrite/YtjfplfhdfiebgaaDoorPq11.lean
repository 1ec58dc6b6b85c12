/-
  readWrite of the program: the write whose words a text has, or that there is none; nothing old is written.
  Condition: what strings.Split tells (premises).
-/
import Derived.Test.YtjfplfhdfiebgaaDoorPq09
import Derived.Test.YtjfplfhdfiebgaaDoorPq10
import Derived.Deep.RegionHeld3

namespace Go.Proofs.YtjfplfhdfiebgaaDoor
open Go.RowKit

set_option maxRecDepth 100000 in
set_option maxHeartbeats 4000000 in
theorem readW_0 (s : ByteArray)  (l : List Bytes) (w : World) (hsp : ∀ W : World, W = w.alloc (.cells #[.int .i64 0, .int .i64 0, .slice none 0 0, .int .i64 0, .int .i64 0] 29) → Calls Tryd.prog 48 #[.string s, .string ⟨#[32]⟩] W fun e w' => e = .returned (.slice (some ⟨W.heap.size, 0, none⟩) 0 0) ∧ w' = W.alloc (.cells #[] 9)) (hl : readI l = none) :
    Calls Tryd.prog 27 #[.string s] w fun e w' => ∃ (k i : Int) (a : Option Addr) (n c : Nat) (ss q : Int) (ok : Bool), e = .returned (.tuple #[.agg #[.int .i64 k, .int .i64 i, .slice a n c, .int .i64 ss, .int .i64 q], .bool ok]) ∧ (ok = true → ∃ x, readI l = some x ∧ Lay.tWrite.OwnIn w' [.int .i64 k, .int .i64 i, .slice a n c, .int .i64 ss, .int .i64 q] x w.heap.size w'.heap.size) ∧ (ok = false → readI l = none) ∧ Below w.heap.size w w' := by
  have nb : Below w.heap.size w (w.alloc (.cells #[.int .i64 0, .int .i64 0, .slice none 0 0, .int .i64 0, .int .i64 0] 29)) := (Below.refl _ _).alloc (Nat.le_refl _) _
  have bR0 : Box 0 #[.int .i64 0, .int .i64 0, .slice none 0 0, .int .i64 0, .int .i64 0] 29 (w.alloc (.cells #[.int .i64 0, .int .i64 0, .slice none 0 0, .int .i64 0, .int .i64 0] 29)) w.heap.size := newBox (Nat.zero_le _)
  have hs0 : (w.alloc (.cells #[.int .i64 0, .int .i64 0, .slice none 0 0, .int .i64 0, .int .i64 0] 29)).heap.size = w.heap.size + 1 := by simp
  have HSP := hide (hsp _ rfl)
  clear hsp
  go_enter Tryd.func27, Tryd.ntmps27
  go_wp2_with fail
  generalize w.alloc (.cells #[.int .i64 0, .int .i64 0, .slice none 0 0, .int .i64 0, .int .i64 0] 29) = w1 at *
  refine (unhide HSP).mono ?_
  rintro e w2 ⟨rfl, hw2⟩
  have nb2 : Below w1.heap.size w1 w2 := by rw [hw2]; exact (Below.refl _ _).alloc (Nat.le_refl _) _
  have bS : Box 0 #[] 9 w2 w1.heap.size := by rw [hw2]; exact newBox (Nat.zero_le _)
  have bR := bR0.keep nb2
  have HB2 := hide (nb.trans (nb2.mono nb.size))
  have hlt2 := bS.lt
  rw [hs0] at *
  clear hw2 nb nb2 bR0 HSP
  have z0 : w2.cell? ⟨w.heap.size, 0, none⟩ = some (.int .i64 0) := bR.at 0 _ rfl
  have z1 : w2.cell? ⟨w.heap.size, 1, none⟩ = some (.int .i64 0) := bR.at 1 _ rfl
  have z2 : w2.cell? ⟨w.heap.size, 2, none⟩ = some (.slice none 0 0) := bR.at 2 _ rfl
  have z3 : w2.cell? ⟨w.heap.size, 3, none⟩ = some (.int .i64 0) := bR.at 3 _ rfl
  have z4 : w2.cell? ⟨w.heap.size, 4, none⟩ = some (.int .i64 0) := bR.at 4 _ rfl
  have f0 := bR.soft 0
  have f1 := bR.soft 1
  have f2 := bR.soft 2
  have f3 := bR.soft 3
  have f4 := bR.soft 4
  have lR := bR.lt
  clear bS bR
  go_wp2_with fail
  refine bodyPost_ret (v := .tuple #[.agg #[.int .i64 0, .int .i64 0, .slice none 0 0, .int .i64 0, .int .i64 0], .bool false]) (by simp [results, Tryd.results27, go_sem, z0, z1, z2, z3, z4]) rfl ?_
  exact ⟨_, _, _, _, _, _, _, false, rfl, (fun h => by cases h), fun _ => hl, ((((((unhide HB2).setCell (by simp) _).setCell (by simp) _).setCell (by simp) _).setCell (by simp) _).setCell (by simp) _)⟩

set_option maxRecDepth 100000 in
set_option maxHeartbeats 4000000 in
theorem readW_1 (s : ByteArray) (b0 : ByteArray) (l : List Bytes) (w : World) (hsp : ∀ W : World, W = w.alloc (.cells #[.int .i64 0, .int .i64 0, .slice none 0 0, .int .i64 0, .int .i64 0] 29) → Calls Tryd.prog 48 #[.string s, .string ⟨#[32]⟩] W fun e w' => e = .returned (.slice (some ⟨W.heap.size, 0, none⟩) 1 1) ∧ w' = W.alloc (.cells #[.string b0] 9)) (hl : readI l = none) :
    Calls Tryd.prog 27 #[.string s] w fun e w' => ∃ (k i : Int) (a : Option Addr) (n c : Nat) (ss q : Int) (ok : Bool), e = .returned (.tuple #[.agg #[.int .i64 k, .int .i64 i, .slice a n c, .int .i64 ss, .int .i64 q], .bool ok]) ∧ (ok = true → ∃ x, readI l = some x ∧ Lay.tWrite.OwnIn w' [.int .i64 k, .int .i64 i, .slice a n c, .int .i64 ss, .int .i64 q] x w.heap.size w'.heap.size) ∧ (ok = false → readI l = none) ∧ Below w.heap.size w w' := by
  have nb : Below w.heap.size w (w.alloc (.cells #[.int .i64 0, .int .i64 0, .slice none 0 0, .int .i64 0, .int .i64 0] 29)) := (Below.refl _ _).alloc (Nat.le_refl _) _
  have bR0 : Box 0 #[.int .i64 0, .int .i64 0, .slice none 0 0, .int .i64 0, .int .i64 0] 29 (w.alloc (.cells #[.int .i64 0, .int .i64 0, .slice none 0 0, .int .i64 0, .int .i64 0] 29)) w.heap.size := newBox (Nat.zero_le _)
  have hs0 : (w.alloc (.cells #[.int .i64 0, .int .i64 0, .slice none 0 0, .int .i64 0, .int .i64 0] 29)).heap.size = w.heap.size + 1 := by simp
  have HSP := hide (hsp _ rfl)
  clear hsp
  go_enter Tryd.func27, Tryd.ntmps27
  go_wp2_with fail
  generalize w.alloc (.cells #[.int .i64 0, .int .i64 0, .slice none 0 0, .int .i64 0, .int .i64 0] 29) = w1 at *
  refine (unhide HSP).mono ?_
  rintro e w2 ⟨rfl, hw2⟩
  have nb2 : Below w1.heap.size w1 w2 := by rw [hw2]; exact (Below.refl _ _).alloc (Nat.le_refl _) _
  have bS : Box 0 #[.string b0] 9 w2 w1.heap.size := by rw [hw2]; exact newBox (Nat.zero_le _)
  have bR := bR0.keep nb2
  have HB2 := hide (nb.trans (nb2.mono nb.size))
  have hlt2 := bS.lt
  rw [hs0] at *
  clear hw2 nb nb2 bR0 HSP
  have z0 : w2.cell? ⟨w.heap.size, 0, none⟩ = some (.int .i64 0) := bR.at 0 _ rfl
  have z1 : w2.cell? ⟨w.heap.size, 1, none⟩ = some (.int .i64 0) := bR.at 1 _ rfl
  have z2 : w2.cell? ⟨w.heap.size, 2, none⟩ = some (.slice none 0 0) := bR.at 2 _ rfl
  have z3 : w2.cell? ⟨w.heap.size, 3, none⟩ = some (.int .i64 0) := bR.at 3 _ rfl
  have z4 : w2.cell? ⟨w.heap.size, 4, none⟩ = some (.int .i64 0) := bR.at 4 _ rfl
  have f0 := bR.soft 0
  have f1 := bR.soft 1
  have f2 := bR.soft 2
  have f3 := bR.soft 3
  have f4 := bR.soft 4
  have lR := bR.lt
  clear bS bR
  go_wp2_with fail
  refine bodyPost_ret (v := .tuple #[.agg #[.int .i64 0, .int .i64 0, .slice none 0 0, .int .i64 0, .int .i64 0], .bool false]) (by simp [results, Tryd.results27, go_sem, z0, z1, z2, z3, z4]) rfl ?_
  exact ⟨_, _, _, _, _, _, _, false, rfl, (fun h => by cases h), fun _ => hl, ((((((unhide HB2).setCell (by simp) _).setCell (by simp) _).setCell (by simp) _).setCell (by simp) _).setCell (by simp) _)⟩

set_option maxRecDepth 100000 in
set_option maxHeartbeats 4000000 in
theorem readW_2 (s : ByteArray) (b0 b1 : ByteArray) (l : List Bytes) (w : World) (hsp : ∀ W : World, W = w.alloc (.cells #[.int .i64 0, .int .i64 0, .slice none 0 0, .int .i64 0, .int .i64 0] 29) → Calls Tryd.prog 48 #[.string s, .string ⟨#[32]⟩] W fun e w' => e = .returned (.slice (some ⟨W.heap.size, 0, none⟩) 2 2) ∧ w' = W.alloc (.cells #[.string b0, .string b1] 9)) (hl : readI l = none) :
    Calls Tryd.prog 27 #[.string s] w fun e w' => ∃ (k i : Int) (a : Option Addr) (n c : Nat) (ss q : Int) (ok : Bool), e = .returned (.tuple #[.agg #[.int .i64 k, .int .i64 i, .slice a n c, .int .i64 ss, .int .i64 q], .bool ok]) ∧ (ok = true → ∃ x, readI l = some x ∧ Lay.tWrite.OwnIn w' [.int .i64 k, .int .i64 i, .slice a n c, .int .i64 ss, .int .i64 q] x w.heap.size w'.heap.size) ∧ (ok = false → readI l = none) ∧ Below w.heap.size w w' := by
  have nb : Below w.heap.size w (w.alloc (.cells #[.int .i64 0, .int .i64 0, .slice none 0 0, .int .i64 0, .int .i64 0] 29)) := (Below.refl _ _).alloc (Nat.le_refl _) _
  have bR0 : Box 0 #[.int .i64 0, .int .i64 0, .slice none 0 0, .int .i64 0, .int .i64 0] 29 (w.alloc (.cells #[.int .i64 0, .int .i64 0, .slice none 0 0, .int .i64 0, .int .i64 0] 29)) w.heap.size := newBox (Nat.zero_le _)
  have hs0 : (w.alloc (.cells #[.int .i64 0, .int .i64 0, .slice none 0 0, .int .i64 0, .int .i64 0] 29)).heap.size = w.heap.size + 1 := by simp
  have HSP := hide (hsp _ rfl)
  clear hsp
  go_enter Tryd.func27, Tryd.ntmps27
  go_wp2_with fail
  generalize w.alloc (.cells #[.int .i64 0, .int .i64 0, .slice none 0 0, .int .i64 0, .int .i64 0] 29) = w1 at *
  refine (unhide HSP).mono ?_
  rintro e w2 ⟨rfl, hw2⟩
  have nb2 : Below w1.heap.size w1 w2 := by rw [hw2]; exact (Below.refl _ _).alloc (Nat.le_refl _) _
  have bS : Box 0 #[.string b0, .string b1] 9 w2 w1.heap.size := by rw [hw2]; exact newBox (Nat.zero_le _)
  have bR := bR0.keep nb2
  have HB2 := hide (nb.trans (nb2.mono nb.size))
  have hlt2 := bS.lt
  rw [hs0] at *
  clear hw2 nb nb2 bR0 HSP
  have z0 : w2.cell? ⟨w.heap.size, 0, none⟩ = some (.int .i64 0) := bR.at 0 _ rfl
  have z1 : w2.cell? ⟨w.heap.size, 1, none⟩ = some (.int .i64 0) := bR.at 1 _ rfl
  have z2 : w2.cell? ⟨w.heap.size, 2, none⟩ = some (.slice none 0 0) := bR.at 2 _ rfl
  have z3 : w2.cell? ⟨w.heap.size, 3, none⟩ = some (.int .i64 0) := bR.at 3 _ rfl
  have z4 : w2.cell? ⟨w.heap.size, 4, none⟩ = some (.int .i64 0) := bR.at 4 _ rfl
  have f0 := bR.soft 0
  have f1 := bR.soft 1
  have f2 := bR.soft 2
  have f3 := bR.soft 3
  have f4 := bR.soft 4
  have lR := bR.lt
  clear bS bR
  go_wp2_with fail
  refine bodyPost_ret (v := .tuple #[.agg #[.int .i64 0, .int .i64 0, .slice none 0 0, .int .i64 0, .int .i64 0], .bool false]) (by simp [results, Tryd.results27, go_sem, z0, z1, z2, z3, z4]) rfl ?_
  exact ⟨_, _, _, _, _, _, _, false, rfl, (fun h => by cases h), fun _ => hl, ((((((unhide HB2).setCell (by simp) _).setCell (by simp) _).setCell (by simp) _).setCell (by simp) _).setCell (by simp) _)⟩

set_option maxRecDepth 100000 in
set_option maxHeartbeats 4000000 in
theorem readW_nby (s : ByteArray) (bs : List ByteArray) (m : Nat) (t : ByteArray) (l : List Bytes) (w : World) (hsp : ∀ W : World, W = w.alloc (.cells #[.int .i64 0, .int .i64 0, .slice none 0 0, .int .i64 0, .int .i64 0] 29) → Calls Tryd.prog 48 #[.string s, .string ⟨#[32]⟩] W fun e w' => e = .returned (.slice (some ⟨W.heap.size, 0, none⟩) (m + 3) (m + 3)) ∧ w' = W.alloc (.cells (bs.map Value.string).toArray 9)) (hl : readI l = none) (hm : m ≤ 10000000) (ht : bs[m]? = some t) (hn : t.data.toList ≠ [98, 121]) :
    Calls Tryd.prog 27 #[.string s] w fun e w' => ∃ (k i : Int) (a : Option Addr) (n c : Nat) (ss q : Int) (ok : Bool), e = .returned (.tuple #[.agg #[.int .i64 k, .int .i64 i, .slice a n c, .int .i64 ss, .int .i64 q], .bool ok]) ∧ (ok = true → ∃ x, readI l = some x ∧ Lay.tWrite.OwnIn w' [.int .i64 k, .int .i64 i, .slice a n c, .int .i64 ss, .int .i64 q] x w.heap.size w'.heap.size) ∧ (ok = false → readI l = none) ∧ Below w.heap.size w w' := by
  have nb : Below w.heap.size w (w.alloc (.cells #[.int .i64 0, .int .i64 0, .slice none 0 0, .int .i64 0, .int .i64 0] 29)) := (Below.refl _ _).alloc (Nat.le_refl _) _
  have bR0 : Box 0 #[.int .i64 0, .int .i64 0, .slice none 0 0, .int .i64 0, .int .i64 0] 29 (w.alloc (.cells #[.int .i64 0, .int .i64 0, .slice none 0 0, .int .i64 0, .int .i64 0] 29)) w.heap.size := newBox (Nat.zero_le _)
  have hs0 : (w.alloc (.cells #[.int .i64 0, .int .i64 0, .slice none 0 0, .int .i64 0, .int .i64 0] 29)).heap.size = w.heap.size + 1 := by simp
  have HSP := hide (hsp _ rfl)
  clear hsp
  go_enter Tryd.func27, Tryd.ntmps27
  go_wp2_with fail
  generalize w.alloc (.cells #[.int .i64 0, .int .i64 0, .slice none 0 0, .int .i64 0, .int .i64 0] 29) = w1 at *
  refine (unhide HSP).mono ?_
  rintro e w2 ⟨rfl, hw2⟩
  have nb2 : Below w1.heap.size w1 w2 := by rw [hw2]; exact (Below.refl _ _).alloc (Nat.le_refl _) _
  have bS : Box 0 (bs.map Value.string).toArray 9 w2 w1.heap.size := by rw [hw2]; exact newBox (Nat.zero_le _)
  have bR := bR0.keep nb2
  have HB2 := hide (nb.trans (nb2.mono nb.size))
  have hlt2 := bS.lt
  rw [hs0] at *
  clear hw2 nb nb2 bR0 HSP
  have z0 : w2.cell? ⟨w.heap.size, 0, none⟩ = some (.int .i64 0) := bR.at 0 _ rfl
  have z1 : w2.cell? ⟨w.heap.size, 1, none⟩ = some (.int .i64 0) := bR.at 1 _ rfl
  have z2 : w2.cell? ⟨w.heap.size, 2, none⟩ = some (.slice none 0 0) := bR.at 2 _ rfl
  have z3 : w2.cell? ⟨w.heap.size, 3, none⟩ = some (.int .i64 0) := bR.at 3 _ rfl
  have z4 : w2.cell? ⟨w.heap.size, 4, none⟩ = some (.int .i64 0) := bR.at 4 _ rfl
  have f0 := bR.soft 0
  have f1 := bR.soft 1
  have f2 := bR.soft 2
  have f3 := bR.soft 3
  have f4 := bR.soft 4
  have lR := bR.lt
  have hc : w2.cell? ⟨w.heap.size + 1, m, none⟩ = some (.string t) := bS.at m _ (by simp [ht])
  have g1 : IntKind.i64.wrap ((m : Int) + 3 - 3) = (m : Int) := by rw [IntKind.wrap_i64]; omega
  have g2 : IntKind.i64.wrap (m : Int) = (m : Int) := by rw [IntKind.wrap_i64]; omega
  have g3 : decide ((m : Int) < 0) = false := decide_eq_false (by omega)
  have g4 : (0 : Int) ≤ (m : Int) := by omega
  have g5 : (m : Int) < (m : Int) + 3 := by omega
  have hne : t.toList ≠ [98, 121] := by rw [toList_data]; exact hn
  have e1 : (t.toList == [98, 121]) = false := by simpa using hne
  have e2 : (t.toList != [98, 121]) = true := by simpa using hne
  clear bS bR ht hn
  go_wp2_with fail
  refine bodyPost_ret (v := .tuple #[.agg #[.int .i64 0, .int .i64 0, .slice none 0 0, .int .i64 0, .int .i64 0], .bool false]) (by simp [results, Tryd.results27, go_sem, z0, z1, z2, z3, z4]) rfl ?_
  exact ⟨_, _, _, _, _, _, _, false, rfl, (fun h => by cases h), fun _ => hl, ((((((unhide HB2).setCell (by simp) _).setCell (by simp) _).setCell (by simp) _).setCell (by simp) _).setCell (by simp) _)⟩

set_option maxRecDepth 100000 in
set_option maxHeartbeats 4000000 in
theorem readW_dno (s : ByteArray) (bs : List ByteArray) (m : Nat) (l : List Bytes) (w : World) (hsp : ∀ W : World, W = w.alloc (.cells #[.int .i64 0, .int .i64 0, .slice none 0 0, .int .i64 0, .int .i64 0] 29) → Calls Tryd.prog 48 #[.string s, .string ⟨#[32]⟩] W fun e w' => e = .returned (.slice (some ⟨W.heap.size, 0, none⟩) (m + 3) (m + 3)) ∧ w' = W.alloc (.cells (bs.map Value.string).toArray 9)) (hl : readI l = none) (hm : m ≤ 10000000) (ht : bs[m]? = some ⟨#[98, 121]⟩) (hd : ∀ W, Box 0 (bs.map Value.string).toArray 9 W (w.heap.size + 1) → Calls Tryd.prog 49 #[.slice (some ⟨w.heap.size + 1, 0, none⟩) m (m + 3)] W fun e w' => ∃ dv, e = .returned (.tuple #[dv, .bool false]) ∧ Below W.heap.size W w') :
    Calls Tryd.prog 27 #[.string s] w fun e w' => ∃ (k i : Int) (a : Option Addr) (n c : Nat) (ss q : Int) (ok : Bool), e = .returned (.tuple #[.agg #[.int .i64 k, .int .i64 i, .slice a n c, .int .i64 ss, .int .i64 q], .bool ok]) ∧ (ok = true → ∃ x, readI l = some x ∧ Lay.tWrite.OwnIn w' [.int .i64 k, .int .i64 i, .slice a n c, .int .i64 ss, .int .i64 q] x w.heap.size w'.heap.size) ∧ (ok = false → readI l = none) ∧ Below w.heap.size w w' := by
  have nb : Below w.heap.size w (w.alloc (.cells #[.int .i64 0, .int .i64 0, .slice none 0 0, .int .i64 0, .int .i64 0] 29)) := (Below.refl _ _).alloc (Nat.le_refl _) _
  have bR0 : Box 0 #[.int .i64 0, .int .i64 0, .slice none 0 0, .int .i64 0, .int .i64 0] 29 (w.alloc (.cells #[.int .i64 0, .int .i64 0, .slice none 0 0, .int .i64 0, .int .i64 0] 29)) w.heap.size := newBox (Nat.zero_le _)
  have hs0 : (w.alloc (.cells #[.int .i64 0, .int .i64 0, .slice none 0 0, .int .i64 0, .int .i64 0] 29)).heap.size = w.heap.size + 1 := by simp
  have HSP := hide (hsp _ rfl)
  clear hsp
  go_enter Tryd.func27, Tryd.ntmps27
  go_wp2_with fail
  generalize w.alloc (.cells #[.int .i64 0, .int .i64 0, .slice none 0 0, .int .i64 0, .int .i64 0] 29) = w1 at *
  refine (unhide HSP).mono ?_
  rintro e w2 ⟨rfl, hw2⟩
  have nb2 : Below w1.heap.size w1 w2 := by rw [hw2]; exact (Below.refl _ _).alloc (Nat.le_refl _) _
  have bS : Box 0 (bs.map Value.string).toArray 9 w2 w1.heap.size := by rw [hw2]; exact newBox (Nat.zero_le _)
  have bR := bR0.keep nb2
  have HB2 := hide (nb.trans (nb2.mono nb.size))
  have hlt2 := bS.lt
  rw [hs0] at *
  clear hw2 nb nb2 bR0 HSP
  have hc : w2.cell? ⟨w.heap.size + 1, m, none⟩ = some (.string ⟨#[98, 121]⟩) := bS.at m _ (by simp [ht])
  have g1 : IntKind.i64.wrap ((m : Int) + 3 - 3) = (m : Int) := by rw [IntKind.wrap_i64]; omega
  have g2 : IntKind.i64.wrap (m : Int) = (m : Int) := by rw [IntKind.wrap_i64]; omega
  have g3 : decide ((m : Int) < 0) = false := decide_eq_false (by omega)
  have g4 : (0 : Int) ≤ (m : Int) := by omega
  have g5 : (m : Int) < (m : Int) + 3 := by omega
  have g6 : (m : Int) ≤ (m : Int) + 3 := by omega
  have HD := hide (hd w2 bS)
  have HR := hide bR
  clear bS bR ht hd
  go_wp2_with fail
  refine (unhide HD).mono ?_
  rintro e w3 ⟨dv, rfl, hb3⟩
  have bR := (unhide HR).keep hb3
  replace HB2 := hide ((unhide HB2).trans (hb3.mono (unhide HB2).size))
  have z0 : w3.cell? ⟨w.heap.size, 0, none⟩ = some (.int .i64 0) := bR.at 0 _ rfl
  have z1 : w3.cell? ⟨w.heap.size, 1, none⟩ = some (.int .i64 0) := bR.at 1 _ rfl
  have z2 : w3.cell? ⟨w.heap.size, 2, none⟩ = some (.slice none 0 0) := bR.at 2 _ rfl
  have z3 : w3.cell? ⟨w.heap.size, 3, none⟩ = some (.int .i64 0) := bR.at 3 _ rfl
  have z4 : w3.cell? ⟨w.heap.size, 4, none⟩ = some (.int .i64 0) := bR.at 4 _ rfl
  have f0 := bR.soft 0
  have f1 := bR.soft 1
  have f2 := bR.soft 2
  have f3 := bR.soft 3
  have f4 := bR.soft 4
  have lR := bR.lt
  clear bR HR HD hb3 hc
  go_wp2_with fail
  refine bodyPost_ret (v := .tuple #[.agg #[.int .i64 0, .int .i64 0, .slice none 0 0, .int .i64 0, .int .i64 0], .bool false]) (by simp [results, Tryd.results27, go_sem, z0, z1, z2, z3, z4]) rfl ?_
  exact ⟨_, _, _, _, _, _, _, false, rfl, (fun h => by cases h), fun _ => hl, ((((((unhide HB2).setCell (by simp) _).setCell (by simp) _).setCell (by simp) _).setCell (by simp) _).setCell (by simp) _)⟩

end Go.Proofs.YtjfplfhdfiebgaaDoor
