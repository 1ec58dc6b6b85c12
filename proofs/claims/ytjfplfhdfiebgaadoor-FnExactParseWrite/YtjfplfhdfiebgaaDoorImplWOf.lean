/-
  writeOf of the program: the write of a deed; nothing old is written.
  No condition.
-/
import Derived.Test.YtjfplfhdfiebgaaDoorImplDeed
import Derived.Test.YtjfplfhdfiebgaaDoorListC
import Derived.Test.YtjfplfhdfiebgaaDoorLayInt
import Derived.Test.YtjfplfhdfiebgaaDoorGround
namespace Go.Proofs.YtjfplfhdfiebgaaDoor
open Go.RowKit

theorem assertDP (v : Value) (w : World) : (Instr.typeAssert (.iface 64 v) 46 70 true).run Tryd.prog w = .ok (.tuple #[.agg #[.int .i64 0, .int .i64 0, .int .i64 0], .bool false]) w := by kernel_rfl
theorem assertDD (v : Value) (w : World) : (Instr.typeAssert (.iface 64 v) 46 64 true).run Tryd.prog w = .ok (.tuple #[v, .bool true]) w := by kernel_rfl

set_option maxRecDepth 10000 in
set_option maxHeartbeats 400000 in
theorem writeOf_drop (i s q : Int) (w : World) :
    Calls Tryd.prog 51 #[dropV, .int .i64 i, .int .i64 s, .int .i64 q] w fun e w' => e = .returned (.agg #[.int .i64 2, .int .i64 i, .slice none 0 0, .int .i64 s, .int .i64 q]) ∧ Below w.heap.size w w' := by
  have a1 := assertDP
  have a2 := assertDD
  have HB : Hid (∀ o o' o'', Below w.heap.size w (((w.alloc o).alloc o').alloc o'')) := fun o o' o'' => (((Below.refl _ _).alloc (Nat.le_refl _) _).alloc (by simp) _).alloc (by simp; omega) _
  simp only [dropV] at *
  go_enter Tryd.func51, Tryd.ntmps51
  go_wp2_with fail
  refine bodyPost_ret (v := .agg #[.int .i64 2, .int .i64 i, .slice none 0 0, .int .i64 s, .int .i64 q]) (by simp [results, Tryd.results51, go_sem]) rfl ?_
  exact ⟨rfl, unhide HB _ _ _⟩

theorem assertPP (v : Value) (w : World) : (Instr.typeAssert (.iface 70 v) 46 70 true).run Tryd.prog w = .ok (.tuple #[v, .bool true]) w := by kernel_rfl

theorem listOfO (x y z : Int) (w : World) :
    Calls Tryd.prog 41 #[.agg #[.int .i64 x, .int .i64 y, .int .i64 z]] w fun e w' => ∃ a c, e = .returned (.slice a 3 c) ∧ w'.ownsRow w.heap.size 2 1 (.slice a 3 c) 3 [.int .i64 x, .int .i64 y, .int .i64 z] ∧ Below w.heap.size w w' := by
  refine (listOf3 x y z w).mono ?_
  rintro e w' ⟨rfl, rfl⟩
  exact ⟨_, _, rfl, own_new3 (W := w.alloc (.cells #[.int .i64 x, .int .i64 y, .int .i64 z] 66)) (base := w.heap.size) (T := 2) (by simp) (by simp), ((Below.refl _ _).alloc (Nat.le_refl _) _).alloc (by simp) _⟩

/-- The vector stored into the write, and the write into the result's block. -/
theorem storeO {w w1 : World} {sx : Nat} {u : Value} {xs : List Value} {B : Nat} {vs : List Value} (hsx : w.heap.size < sx) (hB : sx < B) (O : w1.ownsRow B 2 1 u 3 xs) (hb : Below w.heap.size w w1) :
    (setAll (w1.setCell ⟨sx, 2, none⟩ u) w.heap.size 0 vs).ownsRow B 2 1 u 3 xs ∧ Below w.heap.size w (setAll (w1.setCell ⟨sx, 2, none⟩ u) w.heap.size 0 vs) := by
  have h1 := own_setC (a := ⟨sx, 2, none⟩) O (by simpa using hB) u
  have h2 : Below w.heap.size w (w1.setCell ⟨sx, 2, none⟩ u) := hb.setCell (by simp; omega) _
  refine ⟨?_, below_setAll h2 _ _ _ (Nat.le_refl _)⟩
  have : ∀ (l : List Value) (i : Nat) (W : World), W.ownsRow B 2 1 u 3 xs → (setAll W w.heap.size i l).ownsRow B 2 1 u 3 xs := by
    intro l
    induction l with
    | nil => intro i W h; exact h
    | cons v l ih => intro i W h; exact ih (i + 1) _ (own_setC (a := ⟨w.heap.size, i, none⟩) h (by simp; omega) v)
  exact this vs 0 _ h1

set_option maxRecDepth 10000 in
set_option maxHeartbeats 600000 in
theorem writeOf_put (x y z i s q : Int) (w : World) :
    Calls Tryd.prog 51 #[putV x y z, .int .i64 i, .int .i64 s, .int .i64 q] w fun e w' => ∃ a c, e = .returned (.agg #[.int .i64 1, .int .i64 i, .slice a 3 c, .int .i64 s, .int .i64 q]) ∧ w'.ownsRow w.heap.size 2 1 (.slice a 3 c) 3 [.int .i64 x, .int .i64 y, .int .i64 z] ∧ Below w.heap.size w w' := by
  have a1 := assertPP
  have L := hide (fun W => listOfO x y z W)
  simp only [putV] at *
  go_enter Tryd.func51, Tryd.ntmps51
  go_wp2_with fail
  obtain ⟨W, hW⟩ : ∃ W, W = ((w.alloc (.cells #[.int .i64 0, .int .i64 0, .slice none 0 0, .int .i64 0, .int .i64 0] 29)).alloc (.cells #[.int .i64 1, .int .i64 i, .slice none 0 0, .int .i64 s, .int .i64 q] 29)).alloc (.cells #[.int .i64 x, .int .i64 y, .int .i64 z] 70) := ⟨_, rfl⟩
  have n1 : Below w.heap.size w (w.alloc (.cells #[.int .i64 0, .int .i64 0, .slice none 0 0, .int .i64 0, .int .i64 0] 29)) := (Below.refl _ _).alloc (Nat.le_refl _) _
  have bR : Box 0 #[.int .i64 0, .int .i64 0, .slice none 0 0, .int .i64 0, .int .i64 0] 29 W w.heap.size := by rw [hW]; exact ((newBox (Nat.zero_le _)).grow _).grow _
  have bX : Box 0 #[.int .i64 1, .int .i64 i, .slice none 0 0, .int .i64 s, .int .i64 q] 29 W (w.heap.size + 1) := by rw [hW]; exact (newBoxAt (by omega) (by simp)).grow _
  have HB : Hid (Below w.heap.size w W) := by rw [hW]; exact (n1.alloc (by simp) _).alloc (by simp; omega) _
  rw [← hW]
  clear hW n1
  refine (unhide L _).mono ?_
  rintro e w1 ⟨a, c, rfl, O, hb⟩
  have hsx : w.heap.size < w.heap.size + 1 := by omega
  generalize w.heap.size + 1 = sx at *
  have hX := bX.lt
  replace bR := bR.keep hb
  replace bX := bX.keep hb
  replace HB := hide ((unhide HB).trans (hb.mono (unhide HB).size))
  have x0 := bX.at 0 _ rfl
  have x1 := bX.at 1 _ rfl
  have x2 := bX.at 2 _ rfl
  have x3 := bX.at 3 _ rfl
  have x4 := bX.at 4 _ rfl
  have xf := bX.soft
  have xl := bX.lt
  have r0 := bR.at 0 _ rfl
  have r1 := bR.at 1 _ rfl
  have r2 := bR.at 2 _ rfl
  have r3 := bR.at 3 _ rfl
  have r4 := bR.at 4 _ rfl
  have rf := bR.soft
  have rl := bR.lt
  have HO := hide O
  clear bR bX hb O L
  simp only [List.getElem_toArray, List.getElem_cons_zero, List.getElem_cons_succ] at x0 x1 x2 x3 x4 r0 r1 r2 r3 r4
  go_wp2_with fail
  refine bodyPost_ret (v := .agg #[.int .i64 1, .int .i64 i, .slice a 3 c, .int .i64 s, .int .i64 q]) (by simp [results, Tryd.results51, go_sem, r0, r1, r2, r3, r4]) rfl ?_
  obtain ⟨s1, s2⟩ := storeO (vs := [.int .i64 1, .int .i64 i, .slice a 3 c, .int .i64 s, .int .i64 q]) hsx hX (unhide HO) (unhide HB)
  exact ⟨a, c, rfl, own_mono (by omega) s1, s2⟩

end Go.Proofs.YtjfplfhdfiebgaaDoor
