/-
  Texts of this proof in one: Text, Decimal, ListC, ImplWords, TextL1, SpecWText, WTRes.
  Their conditions stand in their theorems.
-/
import Derived.Test.YtkmfkaljdngigaaDoorChecked
import Derived.Test.YtkmfkaljdngigaaDoorMt03
import Derived.Test.YtkmfkaljdngigaaDoorMt04
import Derived.Lib.LaidTab
import Derived.Lib.AppendIntMem
import Derived.Test.YtkmfkaljdngigaaDoorMt01
import Derived.Deep.RegionHeld3
import Derived.Test.YtkmfkaljdngigaaDoorMt02

namespace Go.Proofs.YtkmfkaljdngigaaDoor
open Go.RowKit

theorem join3 (a b c : Bytes) : Lib.join [a, b, c] [44] = a ++ 44 :: (b ++ 44 :: c) := by
  simp [Lib.join, List.intercalate]
/-- A block of new cells that may be written, here three of them, is there. -/
def Row3 (w : World) (g : Nat) (a b c : Value) : Prop := g < w.heap.size ∧ (∀ o, w.frozen? ⟨g, o, none⟩ = false) ∧ w.cell? ⟨g, 0, none⟩ = some a ∧ w.cell? ⟨g, 1, none⟩ = some b ∧ w.cell? ⟨g, 2, none⟩ = some c
def Row2 (w : World) (g : Nat) (a b : Value) : Prop := g < w.heap.size ∧ (∀ o, w.frozen? ⟨g, o, none⟩ = false) ∧ w.cell? ⟨g, 0, none⟩ = some a ∧ w.cell? ⟨g, 1, none⟩ = some b
theorem Row3.later {w w' : World} {g : Nat} {a b c : Value} (h : Row3 w g a b c) (hb : Below w.heap.size w w') : Row3 w' g a b c :=
  ⟨Nat.lt_of_lt_of_le h.1 hb.size, fun o => (hb.frozen (p := ⟨g, o, none⟩) h.1).trans (h.2.1 o), cell_keep hb h.2.2.1, cell_keep hb h.2.2.2.1, cell_keep hb h.2.2.2.2⟩
theorem Row2.later {w w' : World} {g : Nat} {a b : Value} (h : Row2 w g a b) (hb : Below w.heap.size w w') : Row2 w' g a b :=
  ⟨Nat.lt_of_lt_of_le h.1 hb.size, fun o => (hb.frozen (p := ⟨g, o, none⟩) h.1).trans (h.2.1 o), cell_keep hb h.2.2.1, cell_keep hb h.2.2.2⟩
theorem Row3.set0 {w : World} {g : Nat} {a b c : Value} (h : Row3 w g a b c) (v : Value) : Row3 (w.setCell ⟨g, 0, none⟩ v) g v b c := by
  obtain ⟨h0, h1, h2, h3, h4⟩ := h
  refine ⟨by simpa using h0, fun o => ?_, ?_, ?_, ?_⟩ <;> simp [go_sem, h1, h2, h3, h4]
theorem Row3.set1 {w : World} {g : Nat} {a b c : Value} (h : Row3 w g a b c) (v : Value) : Row3 (w.setCell ⟨g, 1, none⟩ v) g a v c := by
  obtain ⟨h0, h1, h2, h3, h4⟩ := h
  refine ⟨by simpa using h0, fun o => ?_, ?_, ?_, ?_⟩ <;> simp [go_sem, h1, h2, h3, h4]
theorem Row3.set2 {w : World} {g : Nat} {a b c : Value} (h : Row3 w g a b c) (v : Value) : Row3 (w.setCell ⟨g, 2, none⟩ v) g a b v := by
  obtain ⟨h0, h1, h2, h3, h4⟩ := h
  refine ⟨by simpa using h0, fun o => ?_, ?_, ?_, ?_⟩ <;> simp [go_sem, h1, h2, h3, h4]
theorem Row2.setOther {w : World} {g k : Nat} {a b : Value} (h : Row2 w g a b) (hk : g ≠ k) (o : Nat) (v : Value) : Row2 (w.setCell ⟨k, o, none⟩ v) g a b := by
  obtain ⟨h0, h1, h2, h3⟩ := h
  refine ⟨by simpa using h0, fun o => ?_, ?_, ?_⟩ <;> simp [go_sem, h1, h2, h3]
theorem Row3.new {w : World} {T : TypeId} {a b c : Value} : Row3 (w.alloc (.cells #[a, b, c] T)) w.heap.size a b c := by
  refine ⟨by simp, fun o => ?_, ?_, ?_, ?_⟩ <;> simp [go_sem]
theorem Row2.new {w : World} {T : TypeId} {a b : Value} : Row2 (w.alloc (.cells #[a, b] T)) w.heap.size a b := by
  refine ⟨by simp, fun o => ?_, ?_, ?_⟩ <;> simp [go_sem]

/-- What the world keeps while the words are written: the answer's block, the words' block. -/
def Words (w : World) (r g : Nat) (w0 : World) (a b c : Bytes) : Prop := Row2 w r (.int .i64 0) (str []) ∧ Row3 w g (str a) (str b) (str c) ∧ Below w0.heap.size w0 w ∧ w0.heap.size ≤ r ∧ r < g
theorem Words.later {w w' : World} {r g : Nat} {w0 : World} {a b c : Bytes} (h : Words w r g w0 a b c) (hb : Below w.heap.size w w') : Words w' r g w0 a b c :=
  ⟨h.1.later hb, h.2.1.later hb, below_keep h.2.2.1 hb, h.2.2.2⟩
theorem Words.set0 {w : World} {r g : Nat} {w0 : World} {a b c : Bytes} (h : Words w r g w0 a b c) (v : Bytes) : Words (w.setCell ⟨g, 0, none⟩ (str v)) r g w0 v b c :=
  ⟨h.1.setOther (by have := h.2.2.2; omega) _ _, h.2.1.set0 _, h.2.2.1.setCell (by have := h.2.2.2; show w0.heap.size ≤ g; omega) _, h.2.2.2⟩
theorem Words.set1 {w : World} {r g : Nat} {w0 : World} {a b c : Bytes} (h : Words w r g w0 a b c) (v : Bytes) : Words (w.setCell ⟨g, 1, none⟩ (str v)) r g w0 a v c :=
  ⟨h.1.setOther (by have := h.2.2.2; omega) _ _, h.2.1.set1 _, h.2.2.1.setCell (by have := h.2.2.2; show w0.heap.size ≤ g; omega) _, h.2.2.2⟩
theorem Words.set2 {w : World} {r g : Nat} {w0 : World} {a b c : Bytes} (h : Words w r g w0 a b c) (v : Bytes) : Words (w.setCell ⟨g, 2, none⟩ (str v)) r g w0 a b v :=
  ⟨h.1.setOther (by have := h.2.2.2; omega) _ _, h.2.1.set2 _, h.2.2.1.setCell (by have := h.2.2.2; show w0.heap.size ≤ g; omega) _, h.2.2.2⟩

theorem joinC (g : Nat) (a b c : Bytes) (w : World) (h : Row3 w g (str a) (str b) (str c)) (hl : (a ++ 44 :: (b ++ 44 :: c)).length ≤ 1000) :
    Calls Tryd.prog 18 #[.slice (some ⟨g, 0, none⟩) 3 3, .string ⟨#[44]⟩] w fun e w' => e = .returned (str (a ++ 44 :: (b ++ 44 :: c))) ∧ Below w.heap.size w w' := by
  obtain ⟨g0, -, g2, g3, g4⟩ := h
  have e : Lib.join ([⟨a.toArray⟩, ⟨b.toArray⟩, ⟨c.toArray⟩].map fun x : ByteArray => x.data.toList) (⟨#[44]⟩ : ByteArray).data.toList = a ++ 44 :: (b ++ 44 :: c) := by
    rw [← join3]
    simp
  have := Tryd.strings_Join g 0 3 [⟨a.toArray⟩, ⟨b.toArray⟩, ⟨c.toArray⟩] ⟨#[44]⟩ w (fun j x hj => by
    match j, hj with
    | 0, hj => simp at hj; subst hj; exact g2
    | 1, hj => simp at hj; subst hj; exact g3
    | 2, hj => simp at hj; subst hj; exact g4
    | j + 3, hj => simp at hj) g0 (by simp) (by simp) (by rw [e]; omega)
  rw [e] at this
  exact this

set_option maxHeartbeats 1000000 in
theorem implText_ok (v : Value) (x y z : Int) (w : World) (h : IsInts w v [x, y, z]) (hf : vecFault [x, y, z] = 0) (ht : Tab w) :
    Calls Tryd.prog 59 #[v] w fun e w' => e = .returned (.agg #[.int .i64 0, str (text3 x y z)]) ∧ Below w.heap.size w w' := by
  obtain ⟨hx, hy, hz⟩ := fault3 hf
  have HT := hide ht
  clear ht
  have hmk : ∀ w : World, (Instr.makeSlice 45 (.int .i64 3) (.int .i64 3)).run Tryd.prog w = .ok (.slice (some ⟨w.heap.size, 0, none⟩) 3 3) (w.alloc (.cells #[.string ⟨#[]⟩, .string ⟨#[]⟩, .string ⟨#[]⟩] 9)) := fun _ => by kernel_rfl
  have i0 : ∀ w : World, (Instr.index 93 (.agg #[.int .i64 x, .int .i64 y, .int .i64 z]) (.int .i64 0)).run Tryd.prog w = .ok (.int .i64 x) w := fun _ => by kernel_rfl
  have i1 : ∀ w : World, (Instr.index 93 (.agg #[.int .i64 x, .int .i64 y, .int .i64 z]) (.int .i64 1)).run Tryd.prog w = .ok (.int .i64 y) w := fun _ => by kernel_rfl
  have i2 : ∀ w : World, (Instr.index 93 (.agg #[.int .i64 x, .int .i64 y, .int .i64 z]) (.int .i64 2)).run Tryd.prog w = .ok (.int .i64 z) w := fun _ => by kernel_rfl
  go_enter Tryd.func59, Tryd.ntmps59
  go_wp2_with fail
  refine (vectorOf_ok v x y z _ (h.later ((Below.refl _ _).alloc (Nat.le_refl _) _)) hf).mono ?_
  rintro e w1 ⟨rfl, hb⟩
  have hr : Row2 w1 w.heap.size (.int .i64 0) (str []) := Row2.new.later hb
  have hB1 : Below w.heap.size w w1 := ((Below.refl _ _).alloc (Nat.le_refl _) _).trans (hb.mono (by simp))
  have hz0 := hr.1
  have HR := hide hr
  have HB := hide hB1
  clear hb hB1 h hf hr
  simp only [arr3]
  go_wp2_with fail
  refine wp_loop_rounds 4 ?_
  rw [rounds_succ]
  go_wp2_with fail
  have wa : Words ((w1.alloc (.cells #[.int .i64 x, .int .i64 y, .int .i64 z] 93)).alloc (.cells #[.string ⟨#[]⟩, .string ⟨#[]⟩, .string ⟨#[]⟩] 9)) w.heap.size (w1.heap.size + 1) w [] [] [] := by
    refine ⟨((unhide HR).later ((Below.refl _ _).alloc (Nat.le_refl _) _)).later ((Below.refl _ _).alloc (Nat.le_refl _) _), ?_, ((unhide HB).alloc (by omega) _).alloc (by simp; omega) _, Nat.le_refl _, by omega⟩
    have := Row3.new (w := w1.alloc (.cells #[.int .i64 x, .int .i64 y, .int .i64 z] 93)) (T := 9) (a := str []) (b := str []) (c := str [])
    simpa [str] using this
  refine (formatC x _ (by omega) (by omega) ((unhide HT).later wa.2.2.1)).mono ?_
  rintro e w2 ⟨rfl, hb2⟩
  have wb := wa.later hb2
  have hz2 : w1.heap.size < w2.heap.size := by have := hb2.size; simp at this; omega
  obtain ⟨-, ⟨g0, g1, g2, g3, g4⟩, -, -, -⟩ := id wb
  have WB := hide wb
  clear wa hb2 wb HB HR
  simp only [str] at g2 g3 g4 ⊢
  go_wp2_with fail
  rw [rounds_succ]
  go_wp2_with fail
  have wa : Words (w2.setCell ⟨w1.heap.size + 1, 0, none⟩ (str (dec x))) w.heap.size (w1.heap.size + 1) w (dec x) [] [] := (unhide WB).set0 (dec x)
  clear g0 g1 g2 g3 g4 WB
  refine (formatC y _ (by omega) (by omega) ((unhide HT).later wa.2.2.1)).mono ?_
  rintro e w3 ⟨rfl, hb2⟩
  have wb := wa.later hb2
  have hz3 : w1.heap.size < w3.heap.size := by have := hb2.size; simp at this; omega
  obtain ⟨-, ⟨g0, g1, g2, g3, g4⟩, -, -, -⟩ := id wb
  have WB := hide wb
  clear wa hb2 wb
  simp only [str] at g2 g3 g4 ⊢
  go_wp2_with fail
  rw [rounds_succ]
  go_wp2_with fail
  have wa : Words (w3.setCell ⟨w1.heap.size + 1, 1, none⟩ (str (dec y))) w.heap.size (w1.heap.size + 1) w (dec x) (dec y) [] := (unhide WB).set1 (dec y)
  clear g0 g1 g2 g3 g4 WB
  refine (formatC z _ (by omega) (by omega) ((unhide HT).later wa.2.2.1)).mono ?_
  rintro e w4 ⟨rfl, hb2⟩
  have wb := wa.later hb2
  have hz4 : w1.heap.size < w4.heap.size := by have := hb2.size; simp at this; omega
  obtain ⟨-, ⟨g0, g1, g2, g3, g4⟩, -, -, -⟩ := id wb
  have WB := hide wb
  clear wa hb2 wb
  simp only [str] at g2 g3 g4 ⊢
  go_wp2_with fail
  rw [rounds_succ]
  go_wp2_with fail
  have wa : Words (w4.setCell ⟨w1.heap.size + 1, 2, none⟩ (str (dec z))) w.heap.size (w1.heap.size + 1) w (dec x) (dec y) (dec z) := (unhide WB).set2 (dec z)
  clear g0 g1 g2 g3 g4 WB
  have hl := text3_len x y z
  refine (joinC _ _ _ _ _ wa.2.1 (by unfold text3 at hl; omega)).mono ?_
  rintro e w5 ⟨rfl, hb2⟩
  have wb := wa.later hb2
  obtain ⟨⟨g0, g1, g2, g3⟩, -, g4, -, -⟩ := id wb
  have HB := hide g4
  have e3 : dec x ++ 44 :: (dec y ++ 44 :: dec z) = text3 x y z := rfl
  rw [e3]
  clear wa hb2 wb g4 hl
  simp only [str] at g2 g3 ⊢
  go_wp2_with fail
  refine bodyPost_ret (v := .agg #[.int .i64 0, str (text3 x y z)]) (by simp [results, Tryd.results59, go_sem, str, g2, g3]) rfl ⟨rfl, ?_⟩
  exact ((unhide HB).setCell (by simp) _).setCell (by simp) _

set_option maxHeartbeats 1000000 in
theorem implText_bad (v : Value) (zs : List Int) (w : World) (h : IsInts w v zs) (hf : vecFault zs ≠ 0) :
    Calls Tryd.prog 59 #[v] w fun e w' => e = .returned (.agg #[.int .i64 (vecFault zs), str []]) ∧ Below w.heap.size w w' := by
  have hne : (vecFault zs != 0) = true := by rw [bne_iff_ne]; exact hf
  go_enter Tryd.func59, Tryd.ntmps59
  go_wp2_with fail
  refine (vectorOf_bad v zs _ (h.later ((Below.refl _ _).alloc (Nat.le_refl _) _)) hf).mono ?_
  rintro e w1 ⟨rfl, hb⟩
  have hr : Row2 w1 w.heap.size (.int .i64 0) (str []) := Row2.new.later hb
  have hB1 : Below w.heap.size w w1 := ((Below.refl _ _).alloc (Nat.le_refl _) _).trans (hb.mono (by simp))
  obtain ⟨g0, g1, g2, g3⟩ := hr
  have HB := hide hB1
  clear hb hB1 h hf
  simp only [str] at g2 g3
  simp only [arr3]
  go_wp2_with fail
  refine bodyPost_ret (v := .agg #[.int .i64 (vecFault zs), str []]) (by simp [results, Tryd.results59, go_sem, str, g0, g2, g3]) rfl ⟨rfl, ?_⟩
  exact (((unhide HB).setCell (by simp) _).setCell (by simp) _).alloc (by simp; omega) _


theorem implText (v : Value) (zs : List Int) (w : World) (h : IsInts w v zs) (ht : Tab w) :
    Calls Tryd.prog 59 #[v] w fun e w' => e = .returned (.agg #[.int .i64 (vecFault zs), str (vecText zs)]) ∧ Below w.heap.size w w' := by
  by_cases hf : vecFault zs = 0
  · match zs, (vecFault_zero hf).1 with
    | [x, y, z], _ =>
      have e : vecText [x, y, z] = text3 x y z := by simp [vecText, hf]
      rw [e, hf]
      exact implText_ok v x y z w h hf ht
  · have e : vecText zs = [] := by simp [vecText, hf]
    rw [e]
    exact implText_bad v zs w h hf

end Go.Proofs.YtkmfkaljdngigaaDoor

namespace Go.Proofs.YtkmfkaljdngigaaDoor
open Go.RowKit

theorem decimalC (n : Int) (w : World) (h1 : -9999 ≤ n) (h2 : n ≤ 9999) (ht : Tab w) :
    Calls Tryd.prog 29 #[.int .i64 n] w fun e w' => e = .returned (str (dec n)) ∧ Below w.heap.size w w' := by
  have L := hide (formatC n w h1 h2 ht)
  clear ht
  go_enter Tryd.func29, Tryd.ntmps29
  go_wp2_with fail
  refine (unhide L).mono ?_
  rintro e w1 ⟨rfl, hb⟩
  have HB := hide hb
  clear hb L
  simp only [str]
  go_wp2_with fail
  go_ret
  exact ⟨rfl, unhide HB⟩

end Go.Proofs.YtkmfkaljdngigaaDoor

namespace Go.Proofs.YtkmfkaljdngigaaDoor
open Go.RowKit

set_option maxHeartbeats 400000 in
theorem listOf3 (x y z : Int) (w : World) :
    Calls Tryd.prog 60 #[arr3 x y z] w fun e w' => e = .returned (.slice (some ⟨w.heap.size + 1, 0, none⟩) 3 3) ∧
      (w.alloc (.cells #[.int .i64 x, .int .i64 y, .int .i64 z] 93)).alloc (.cells #[.int .i64 x, .int .i64 y, .int .i64 z] 2) = w' := by
  have hmk : ∀ w : World, (Instr.makeSlice 22 (.int .i64 3) (.int .i64 3)).run Tryd.prog w = .ok (.slice (some ⟨w.heap.size, 0, none⟩) 3 3) (w.alloc (.cells #[.int .i64 0, .int .i64 0, .int .i64 0] 2)) := fun _ => by kernel_rfl
  have i0 : ∀ w : World, (Instr.index 93 (.agg #[.int .i64 x, .int .i64 y, .int .i64 z]) (.int .i64 0)).run Tryd.prog w = .ok (.int .i64 x) w := fun _ => by kernel_rfl
  have i1 : ∀ w : World, (Instr.index 93 (.agg #[.int .i64 x, .int .i64 y, .int .i64 z]) (.int .i64 1)).run Tryd.prog w = .ok (.int .i64 y) w := fun _ => by kernel_rfl
  have i2 : ∀ w : World, (Instr.index 93 (.agg #[.int .i64 x, .int .i64 y, .int .i64 z]) (.int .i64 2)).run Tryd.prog w = .ok (.int .i64 z) w := fun _ => by kernel_rfl
  simp only [arr3]
  go_enter Tryd.func60, Tryd.ntmps60
  go_wp2
  refine wp_loop_rounds 4 ?_
  rw [rounds_succ]
  go_wp2
  rw [rounds_succ]
  go_wp2
  rw [rounds_succ]
  go_wp2
  rw [rounds_succ]
  go_wp2
  go_ret
  exact ⟨rfl, rfl⟩

end Go.Proofs.YtkmfkaljdngigaaDoor

namespace Go.Proofs.YtkmfkaljdngigaaDoor
open Go.RowKit

theorem listOwn (x y z : Int) (w : World) (hw : ∀ a ∈ [x, y, z], (Lit.int .i64 a).wf = true) :
    Calls Tryd.prog 60 #[arr3 x y z] w fun e w' => ∃ g, e = .returned (.slice (some ⟨g, 0, none⟩) 3 3) ∧ (Lay.sl Lay.int).OwnIn w' [.slice (some ⟨g, 0, none⟩) 3 3] [x, y, z] w.heap.size w'.heap.size ∧ Below w.heap.size w w' := by
  refine (listOf3 x y z w).mono ?_
  rintro e w' ⟨rfl, rfl⟩
  refine ⟨w.heap.size + 1, rfl, ?_, ((Below.refl _ _).alloc (Nat.le_refl _) _).alloc (by simp) _⟩
  refine Lay.ownInts (zs := [x, y, z]) (base := w.heap.size) (T := 2) hw (by simp) ?_
  exact own_new3 (W := w.alloc _) (by simp) (by simp)

end Go.Proofs.YtkmfkaljdngigaaDoor

namespace Go.Proofs.YtkmfkaljdngigaaDoor
open Go.RowKit

theorem fieldText (c : Int) (s : ByteArray) (w : World) : (Instr.field 29 (.agg #[.int .i64 c, .string s]) 1).run Tryd.prog w = .ok (.string s) w := by kernel_rfl

theorem listOfC (x y z : Int) (w : World) (hw : ∀ u ∈ [x, y, z], (Lit.int .i64 u).wf = true) :
    Calls Tryd.prog 60 #[.agg #[.int .i64 x, .int .i64 y, .int .i64 z]] w fun e w' => ∃ a c, e = .returned (.slice a 3 c) ∧ IsInts w' (.slice a 3 c) [x, y, z] ∧ Below w.heap.size w w' := by
  refine (listOf3 x y z w).mono ?_
  rintro e w' ⟨rfl, rfl⟩
  refine ⟨_, _, rfl, isInts_row (zs := [x, y, z]) hw (own_new3 (W := w.alloc (.cells #[.int .i64 x, .int .i64 y, .int .i64 z] 93)) (base := w.heap.size) (T := 2) (by simp) (by simp)), ((Below.refl _ _).alloc (Nat.le_refl _) _).alloc (by simp) _⟩

def ToldWords (w w' : World) (e : Ending) (cs : List Bytes) : Prop := ∃ g cap, e = .returned (.slice (some ⟨g, 0, none⟩) cs.length cap) ∧ w'.ownsRow w.heap.size 9 1 (.slice (some ⟨g, 0, none⟩) cs.length cap) cs.length (cs.map str) ∧ Below w.heap.size w w'

set_option maxRecDepth 10000 in
set_option maxHeartbeats 1000000 in
theorem words_drop (i : Int) (w : World) (hi : 1 ≤ i ∧ i ≤ 999) (ht : Tab w) :
    Calls Tryd.prog 48 #[dropV, .int .i64 i] w fun e w' => ToldWords w w' e [[100, 114, 111, 112], dec i] := by
  have L : Hid (∀ W, Tab W → Calls Tryd.prog 29 #[.int .i64 i] W fun e w' => e = .returned (str (dec i)) ∧ Below W.heap.size W w') := fun W h => decimalC i W (by omega) (by omega) h
  have a1 := assertDrop2
  have m1 := methDrop
  have HT := hide ht
  clear ht
  simp only [dropV, str] at *
  generalize dec i = di at *
  go_enter Tryd.func48, Tryd.ntmps48
  go_wp2_with fail
  refine (verbDrop _).mono ?_
  rintro e w1 ⟨rfl, hb1⟩
  have HB := hide hb1
  clear hb1
  go_wp2_with fail
  refine (unhide L _ ((unhide HT).later (unhide HB))).mono ?_
  rintro e w2 ⟨rfl, hb⟩
  replace HB := hide ((unhide HB).trans (hb.mono (unhide HB).size))
  clear hb
  go_wp2_with fail
  go_ret
  have hz := (unhide HB).size
  exact ⟨w2.heap.size, 2, rfl, World.ownsRow_lit w2 _ 2 hz (by unfold maxLen; omega) rfl, (unhide HB).alloc hz _⟩

set_option maxRecDepth 10000 in
set_option maxHeartbeats 1000000 in
theorem words_put (i x y z : Int) (w : World) (hi : 1 ≤ i ∧ i ≤ 999) (hv : vecFault [x, y, z] = 0) (ht : Tab w) :
    Calls Tryd.prog 48 #[putV x y z, .int .i64 i] w fun e w' => ToldWords w w' e [[112, 117, 116], dec i, vecText [x, y, z]] := by
  have L : Hid (∀ W, Tab W → Calls Tryd.prog 29 #[.int .i64 i] W fun e w' => e = .returned (str (dec i)) ∧ Below W.heap.size W w') := fun W h => decimalC i W (by omega) (by omega) h
  have LV : Hid (∀ W v, Tab W → IsInts W v [x, y, z] → Calls Tryd.prog 59 #[v] W fun e w' => e = .returned (.agg #[.int .i64 0, str (vecText [x, y, z])]) ∧ Below W.heap.size W w') := fun W v h hi => by
    have := implText v [x, y, z] W hi h
    rw [hv] at this
    exact this
  have HW : Hid (∀ u ∈ [x, y, z], (Lit.int .i64 u).wf = true) := by
    obtain ⟨b1, b2, b3⟩ := fault3 hv
    intro u hu
    simp at hu
    rcases hu with rfl | rfl | rfl <;> exact wf_of_bd (by omega)
  have a1 := assertPut2
  have m1 := methPut
  have f1 := fieldText
  have HT := hide ht
  clear ht hv
  simp only [putV, str] at *
  generalize hvt : vecText [x, y, z] = vt at *
  generalize dec i = di at *
  clear hvt
  go_enter Tryd.func48, Tryd.ntmps48
  go_wp2_with fail
  refine (verbPut x y z _).mono ?_
  rintro e w1 ⟨rfl, hb1⟩
  have HB := hide hb1
  clear hb1
  go_wp2_with fail
  refine (unhide L _ ((unhide HT).later (unhide HB))).mono ?_
  rintro e w2 ⟨rfl, hb⟩
  replace HB := hide ((unhide HB).trans (hb.mono (unhide HB).size))
  have hz2 := (unhide HB).size
  clear hb
  have O : (w2.alloc (.cells #[.string ⟨#[112, 117, 116]⟩, .string ⟨di.toArray⟩] 9)).ownsRow w2.heap.size 9 1 (.slice (some ⟨w2.heap.size, 0, none⟩) 2 2) 2 [.string ⟨#[112, 117, 116]⟩, .string ⟨di.toArray⟩] := World.ownsRow_lit w2 _ 2 (Nat.le_refl _) (by unfold maxLen; omega) rfl
  have nb : Below w2.heap.size w2 ((w2.alloc (.cells #[.string ⟨#[112, 117, 116]⟩, .string ⟨di.toArray⟩] 9)).alloc (.cells #[.int .i64 x, .int .i64 y, .int .i64 z] 97)) := ((Below.refl _ _).alloc (Nat.le_refl _) _).alloc (by simp) _
  have O2 := own_below O ((Below.refl (w2.alloc (.cells #[.string ⟨#[112, 117, 116]⟩, .string ⟨di.toArray⟩] 9)).heap.size _).alloc (Nat.le_refl _) (.cells #[.int .i64 x, .int .i64 y, .int .i64 z] 97))
  have hz3 : w2.heap.size < ((w2.alloc (.cells #[.string ⟨#[112, 117, 116]⟩, .string ⟨di.toArray⟩] 9)).alloc (.cells #[.int .i64 x, .int .i64 y, .int .i64 z] 97)).heap.size := by simp; omega
  clear O
  go_wp2_with fail
  generalize (w2.alloc (.cells #[.string ⟨#[112, 117, 116]⟩, .string ⟨di.toArray⟩] 9)).alloc (.cells #[.int .i64 x, .int .i64 y, .int .i64 z] 97) = W3 at *
  refine (listOfC x y z _ (unhide HW)).mono ?_
  rintro e w4 ⟨a4, c4, rfl, I4, hb⟩
  replace O2 := own_below O2 hb
  replace HB := hide (((unhide HB).trans (nb.mono hz2)).trans (hb.mono (by omega)))
  have hz4 := hb.size
  clear hb nb
  go_wp2_with fail
  refine (unhide LV _ _ ((unhide HT).later (unhide HB)) I4).mono ?_
  rintro e w5 ⟨rfl, hb⟩
  replace O2 := own_below O2 hb
  replace HB := hide ((unhide HB).trans (hb.mono (by omega)))
  have hz5 := hb.size
  clear hb I4
  go_wp2_with (at_builtin; refine wpList_append_strs O2 [⟨vt.toArray⟩] rfl _ _ rfl rfl 1 rfl rfl (by omega) (by omega) (by omega) ?_)
  rintro g6 d6 w6 O3 - hb6 hl6 hz6
  replace HB := hide ((unhide HB).trans (hb6.mono hz2))
  clear O2 hb6
  have HO := hide O3
  clear O3
  go_wp2_with fail
  go_ret
  exact ⟨g6, d6, rfl, own_mono hz2 (unhide HO), unhide HB⟩

end Go.Proofs.YtkmfkaljdngigaaDoor

namespace Go.Proofs.YtkmfkaljdngigaaDoor
open Go.RowKit

set_option maxRecDepth 100000 in
set_option maxHeartbeats 2000000 in
theorem l1Text3 (b off cap : Nat) (x y z : Int) (w : World) (c0 : w.cell? ⟨b, off, none⟩ = some (.int .i64 x)) (c1 : w.cell? ⟨b, off + 1, none⟩ = some (.int .i64 y)) (c2 : w.cell? ⟨b, off + 2, none⟩ = some (.int .i64 z))
    (hx : -1000 ≤ x ∧ x ≤ 1000) (hy : -1000 ≤ y ∧ y ≤ 1000) (hz : -1000 ≤ z ∧ z ≤ 1000) :
    Calls Tryd.prog 24 #[.slice (some ⟨b, off, none⟩) 3 cap] w fun e w' => e = .returned (str (text3 x y z)) ∧ Below w.heap.size w w' := by
  have D0 := hide fun W => digits x W (by omega) (by omega)
  have D1 := hide fun W => digits y W (by omega) (by omega)
  have D2 := hide fun W => digits z W (by omega) (by omega)
  have HT : Hid (text3 x y z = dec x ++ 44 :: (dec y ++ 44 :: dec z)) := rfl
  have l0 := dec_len x
  have l1 := dec_len y
  have l2 := dec_len z
  simp only [str] at D0 D1 D2
  rw [HT.out]
  clear HT
  generalize dec x = a at *
  generalize dec y = d at *
  generalize dec z = f at *
  have s0 : ∀ W : World, (Op.stringOp .add ⟨#[]⟩ ⟨a.toArray⟩).run Tryd.prog W = .ok (.string ⟨a.toArray⟩) W := fun W => (run_string_add_sum W _ _ (by simp [ByteArray.size]; omega)).trans (by rw [show (⟨#[]⟩ : ByteArray) = ⟨([] : Bytes).toArray⟩ from rfl, str_app]; rfl)
  have s1 : ∀ W : World, (Op.stringOp .add ⟨a.toArray⟩ ⟨#[44]⟩).run Tryd.prog W = .ok (.string ⟨(a ++ [44]).toArray⟩) W := fun W => (run_string_add_sum W _ _ (by simp [ByteArray.size]; omega)).trans (by rw [show (⟨#[44]⟩ : ByteArray) = ⟨([44] : Bytes).toArray⟩ from rfl, str_app])
  have s2 : ∀ W : World, (Op.stringOp .add ⟨(a ++ [44]).toArray⟩ ⟨d.toArray⟩).run Tryd.prog W = .ok (.string ⟨(a ++ [44] ++ d).toArray⟩) W := fun W => (run_string_add_sum W _ _ (by simp [ByteArray.size]; omega)).trans (by rw [str_app])
  have s3 : ∀ W : World, (Op.stringOp .add ⟨(a ++ [44] ++ d).toArray⟩ ⟨#[44]⟩).run Tryd.prog W = .ok (.string ⟨(a ++ [44] ++ d ++ [44]).toArray⟩) W := fun W => (run_string_add_sum W _ _ (by simp [ByteArray.size]; omega)).trans (by rw [show (⟨#[44]⟩ : ByteArray) = ⟨([44] : Bytes).toArray⟩ from rfl, str_app])
  have s4 : ∀ W : World, (Op.stringOp .add ⟨(a ++ [44] ++ d ++ [44]).toArray⟩ ⟨f.toArray⟩).run Tryd.prog W = .ok (.string ⟨(a ++ [44] ++ d ++ [44] ++ f).toArray⟩) W := fun W => (run_string_add_sum W _ _ (by simp [ByteArray.size]; omega)).trans (by rw [str_app])
  have HE : Hid (a ++ [44] ++ d ++ [44] ++ f = a ++ 44 :: (d ++ 44 :: f)) := by simp [Hid]
  rw [← HE.out]
  clear HE
  generalize hp : a ++ [44] = p at *
  generalize hq : p ++ d = q at *
  generalize hr : q ++ [44] = r at *
  generalize ht : r ++ f = t at *
  clear hp hq hr ht
  simp only [str]
  go_enter Tryd.func24, Tryd.ntmps24
  go_wp2_with fail
  refine wp_loop_rounds 4 ?_
  rw [rounds_succ]
  go_wp2_with fail
  refine (unhide D0 _).mono ?_
  rintro e w1 ⟨rfl, hb1⟩
  have d1 := cell_keep hb1 c1
  have d2 := cell_keep hb1 c2
  have HB := hide hb1
  clear hb1
  go_wp2_with fail
  rw [rounds_succ]
  go_wp2_with fail
  refine (unhide D1 _).mono ?_
  rintro e w2 ⟨rfl, hb1⟩
  have e2 := cell_keep hb1 d2
  have HB2 := hide (below_keep (unhide HB) hb1)
  clear hb1 HB
  go_wp2_with fail
  rw [rounds_succ]
  go_wp2_with fail
  refine (unhide D2 _).mono ?_
  rintro e w3 ⟨rfl, hb1⟩
  have HB := hide (below_keep (unhide HB2) hb1)
  clear hb1 HB2
  go_wp2_with fail
  rw [rounds_succ]
  go_wp2_with fail
  go_ret
  exact ⟨rfl, unhide HB⟩

end Go.Proofs.YtkmfkaljdngigaaDoor

namespace Go.Proofs.YtkmfkaljdngigaaDoor
open Go.RowKit

theorem fault3_zero {x y z : Int} (bx : -1000 ≤ x ∧ x ≤ 1000) (bY : -1000 ≤ y ∧ y ≤ 1000) (bz : -1000 ≤ z ∧ z ≤ 1000) : vecFault [x, y, z] = 0 := by
  refine vecFault_ok rfl fun j hj => ?_
  rcases j with _ | _ | _ | j
  · simp [partB, bx]
  · simp [partB, bY]
  · simp [partB, bz]
  · omega

set_option maxRecDepth 100000 in
set_option maxHeartbeats 4000000 in
theorem l3Text_put (b o : Nat) (i s q : Int) (x y z : Int) (vb off cap : Nat) (w : World) (hc : WriteAtO w b o 1 i (.slice (some ⟨vb, off, none⟩) 3 cap) s q) (z0 : w.cell? ⟨vb, off, none⟩ = some (.int .i64 x)) (z1 : w.cell? ⟨vb, off + 1, none⟩ = some (.int .i64 y)) (z2 : w.cell? ⟨vb, off + 2, none⟩ = some (.int .i64 z)) (hi : 1 ≤ i ∧ i ≤ 999) (hs : 1 ≤ s ∧ s ≤ 9) (hq : 1 ≤ q ∧ q ≤ 999) (bx : -1000 ≤ x ∧ x ≤ 1000) (bY : -1000 ≤ y ∧ y ≤ 1000) (bz : -1000 ≤ z ∧ z ≤ 1000) :
    Calls Tryd.prog 13 #[.pointer (some ⟨b, o, none⟩)] w fun e w' => e = .returned (str (writeTail s q (writeHead 1 i [x, y, z]))) ∧ Below w.heap.size w w' := by
  obtain ⟨c0, c1, c2, c3, c4⟩ := hc
  have hbl : b < w.heap.size := World.block_lt_of_cell? _ _ c0
  have l0 := dec_len i
  have l1 := dec_len s
  have l2 := dec_len q
  have l3 := text3_len x y z
  have HT : Hid (writeHead 1 i [x, y, z] = [112, 117, 116, 32] ++ dec i ++ [32] ++ text3 x y z) := by
    show writeHead 1 i [x, y, z] = [112, 117, 116, 32] ++ dec i ++ [32] ++ text3 x y z
    rw [writeHead, if_pos rfl, vecText, if_pos (fault3_zero bx bY bz)]
    rfl
  have DI : Hid (∀ W, Calls Tryd.prog 12 #[.int .i64 i] W fun e w' => e = .returned (str (dec i)) ∧ Below W.heap.size W w') := fun W => digits i W (by omega) (by omega)
  have DS : Hid (∀ W, Calls Tryd.prog 12 #[.int .i64 s] W fun e w' => e = .returned (str (dec s)) ∧ Below W.heap.size W w') := fun W => digits s W (by omega) (by omega)
  have DQ : Hid (∀ W, Calls Tryd.prog 12 #[.int .i64 q] W fun e w' => e = .returned (str (dec q)) ∧ Below W.heap.size W w') := fun W => digits q W (by omega) (by omega)
  have DV : Hid (∀ W, Below w.heap.size w W → Calls Tryd.prog 24 #[.slice (some ⟨vb, off, none⟩) 3 cap] W fun e w' => e = .returned (str (text3 x y z)) ∧ Below W.heap.size W w') := fun W hW => l1Text3 vb off cap x y z W (cell_keep hW z0) (cell_keep hW z1) (cell_keep hW z2) bx bY bz
  simp only [str] at DI DS DQ DV
  rw [unhide HT]
  unfold writeTail
  clear HT z0 z1 z2 bx bY bz
  generalize dec i = di at *
  generalize dec s = ds at *
  generalize dec q = dq at *
  generalize text3 x y z = vt at *
  obtain ⟨e1, he1⟩ : ∃ e1, [100, 114, 111, 112, 32] ++ di = e1 := ⟨_, rfl⟩
  have s1 := addS he1 (by rw [← he1]; simp; omega)
  obtain ⟨p1, hp1⟩ : ∃ p1, [112, 117, 116, 32] ++ di = p1 := ⟨_, rfl⟩
  have s2 := addS hp1 (by rw [← hp1]; simp; omega)
  obtain ⟨p2, hp2⟩ : ∃ p2, p1 ++ [32] = p2 := ⟨_, rfl⟩
  have s3 := addS hp2 (by rw [← hp2, ← hp1]; simp; omega)
  obtain ⟨p3, hp3⟩ : ∃ p3, p2 ++ vt = p3 := ⟨_, rfl⟩
  have s4 := addS hp3 (by rw [← hp3, ← hp2, ← hp1]; simp; omega)
  rw [hp1, hp2, hp3]
  obtain ⟨p4, hp4⟩ : ∃ p4, p3 ++ [32, 98, 121, 32] = p4 := ⟨_, rfl⟩
  have s5 := addS hp4 (by rw [← hp4, ← hp3, ← hp2, ← hp1]; simp; omega)
  obtain ⟨p5, hp5⟩ : ∃ p5, p4 ++ ds = p5 := ⟨_, rfl⟩
  have s6 := addS hp5 (by rw [← hp5, ← hp4, ← hp3, ← hp2, ← hp1]; simp; omega)
  obtain ⟨p6, hp6⟩ : ∃ p6, p5 ++ [32] = p6 := ⟨_, rfl⟩
  have s7 := addS hp6 (by rw [← hp6, ← hp5, ← hp4, ← hp3, ← hp2, ← hp1]; simp; omega)
  obtain ⟨p7, hp7⟩ : ∃ p7, p6 ++ dq = p7 := ⟨_, rfl⟩
  have s8 := addS hp7 (by rw [← hp7, ← hp6, ← hp5, ← hp4, ← hp3, ← hp2, ← hp1]; simp; omega)
  rw [hp4, hp5, hp6, hp7]
  clear hp4 hp5 hp6 hp7 he1 hp1 hp2 hp3 l0 l1 l2 l3
  simp only [str]
  go_enter Tryd.func13, Tryd.ntmps13
  go_wp2_with fail
  refine (unhide DI _).mono ?_
  rintro e w1 ⟨rfl, hb1⟩
  have HB := hide hb1
  have k0 := cell_keep hb1 c0
  clear hb1
  go_wp2_with fail
  refine wp_region_noPanic ?_
  refine wp_region_held_drew (S := fun w' => Below w.heap.size w w') (by kernel_rfl) (unhide HB).drew (fun hHeld => ?_)
  generalize w1.drew = wD at hHeld ⊢
  refine wpAnyH_take (i := 0) (oi := { dst := some 15, op := Go.Op.move (Go.Operand.tmp 0), type := 43, pos := "l03_write.go:66", after := #[], guard := none }) (v := ?v0) rfl (by kernel_rfl) (by kernel_rfl) (by kernel_rfl) (fun _ _ _ h => h) (Or.inl ⟨by rfl, ?h0⟩) hHeld ?r0
  case h0 =>
    intro wS hSw
    (try dsimp only at hSw)
    go_simp
    try with_reducible rfl
  case r0 =>
  simp only [Act.put, List.setIfInBounds_toArray, List.set_cons_zero, List.set_cons_succ]
  refine wpAnyH_take (i := 1) (oi := { dst := some 16, op := Go.Op.nilCheck (Go.Operand.tmp 15), type := 0, pos := "l03_write.go:66", after := #[{ on := 0, ground := Go.Ground.data }], guard := none }) (v := ?v1) rfl (by kernel_rfl) (by kernel_rfl) (by kernel_rfl) (fun _ _ _ h => h) (Or.inl ⟨by rfl, ?h1⟩) hHeld ?r1
  case h1 =>
    intro wS hSw
    (try dsimp only at hSw)
    go_simp
    try with_reducible rfl
  case r1 =>
  simp only [Act.put, List.setIfInBounds_toArray, List.set_cons_zero, List.set_cons_succ]
  refine wpAnyH_take (i := 2) (oi := { dst := some 17, op := Go.Op.fieldAddr 31 (Go.Operand.tmp 16) 1, type := 0, pos := "l03_write.go:66", after := #[{ on := 1, ground := Go.Ground.data }], guard := none }) (v := ?v2) rfl (by kernel_rfl) (by kernel_rfl) (by kernel_rfl) (fun _ _ _ h => h) (Or.inl ⟨by rfl, ?h2⟩) hHeld ?r2
  case h2 =>
    intro wS hSw
    (try dsimp only at hSw)
    go_simp
    try with_reducible rfl
  case r2 =>
  simp only [Act.put, List.setIfInBounds_toArray, List.set_cons_zero, List.set_cons_succ]
  refine wpAnyH_take (i := 3) (oi := { dst := some 18, op := Go.Op.load 2 (Go.Operand.tmp 17), type := 2, pos := "l03_write.go:66", after := #[{ on := 2, ground := Go.Ground.data }], guard := none }) (v := ?v3) rfl (by kernel_rfl) (by kernel_rfl) (by kernel_rfl) (fun _ _ _ h => h) (Or.inl ⟨by rfl, ?h3⟩) hHeld ?r3
  case h3 =>
    intro wS hSw
    have y0 := (hSw.cell (p := ⟨b, o, none⟩) hbl).trans c0
    have y1 := (hSw.cell (p := ⟨b, o + 1, none⟩) hbl).trans c1
    have y2 := (hSw.cell (p := ⟨b, o + 2, none⟩) hbl).trans c2
    have y3 := (hSw.cell (p := ⟨b, o + 3, none⟩) hbl).trans c3
    have y4 := (hSw.cell (p := ⟨b, o + 4, none⟩) hbl).trans c4
    clear hSw
    (try dsimp only at hSw)
    go_simp
    try with_reducible rfl
  case r3 =>
  simp only [Act.put, List.setIfInBounds_toArray, List.set_cons_zero, List.set_cons_succ]
  refine wpAnyH_take (i := 7) (oi := { dst := some 22, op := Go.Op.move (Go.Operand.tmp 0), type := 43, pos := "l03_write.go:66", after := #[], guard := none }) (v := ?v7) rfl (by kernel_rfl) (by kernel_rfl) (by kernel_rfl) (fun _ _ _ h => h) (Or.inl ⟨by rfl, ?h7⟩) hHeld ?r7
  case h7 =>
    intro wS hSw
    (try dsimp only at hSw)
    go_simp
    try with_reducible rfl
  case r7 =>
  simp only [Act.put, List.setIfInBounds_toArray, List.set_cons_zero, List.set_cons_succ]
  refine wpAnyH_take (i := 8) (oi := { dst := some 23, op := Go.Op.nilCheck (Go.Operand.tmp 22), type := 0, pos := "l03_write.go:66", after := #[{ on := 7, ground := Go.Ground.data }], guard := none }) (v := ?v8) rfl (by kernel_rfl) (by kernel_rfl) (by kernel_rfl) (fun _ _ _ h => h) (Or.inl ⟨by rfl, ?h8⟩) hHeld ?r8
  case h8 =>
    intro wS hSw
    (try dsimp only at hSw)
    go_simp
    try with_reducible rfl
  case r8 =>
  simp only [Act.put, List.setIfInBounds_toArray, List.set_cons_zero, List.set_cons_succ]
  refine wpAnyH_take (i := 9) (oi := { dst := some 24, op := Go.Op.fieldAddr 31 (Go.Operand.tmp 23) 2, type := 0, pos := "l03_write.go:66", after := #[{ on := 8, ground := Go.Ground.data }], guard := none }) (v := ?v9) rfl (by kernel_rfl) (by kernel_rfl) (by kernel_rfl) (fun _ _ _ h => h) (Or.inl ⟨by rfl, ?h9⟩) hHeld ?r9
  case h9 =>
    intro wS hSw
    (try dsimp only at hSw)
    go_simp
    try with_reducible rfl
  case r9 =>
  simp only [Act.put, List.setIfInBounds_toArray, List.set_cons_zero, List.set_cons_succ]
  refine wpAnyH_take (i := 10) (oi := { dst := some 25, op := Go.Op.load 22 (Go.Operand.tmp 24), type := 22, pos := "l03_write.go:66", after := #[{ on := 9, ground := Go.Ground.data }], guard := none }) (v := ?v10) rfl (by kernel_rfl) (by kernel_rfl) (by kernel_rfl) (fun _ _ _ h => h) (Or.inl ⟨by rfl, ?h10⟩) hHeld ?r10
  case h10 =>
    intro wS hSw
    have y0 := (hSw.cell (p := ⟨b, o, none⟩) hbl).trans c0
    have y1 := (hSw.cell (p := ⟨b, o + 1, none⟩) hbl).trans c1
    have y2 := (hSw.cell (p := ⟨b, o + 2, none⟩) hbl).trans c2
    have y3 := (hSw.cell (p := ⟨b, o + 3, none⟩) hbl).trans c3
    have y4 := (hSw.cell (p := ⟨b, o + 4, none⟩) hbl).trans c4
    clear hSw
    (try dsimp only at hSw)
    go_simp
    try with_reducible rfl
  case r10 =>
  simp only [Act.put, List.setIfInBounds_toArray, List.set_cons_zero, List.set_cons_succ]
  refine wpAnyH_ready (rs := [4]) (by kernel_rfl) (by simp) ?_
  refine AllReadyH.cons (o := { dst := some 19, op := Go.Op.call { callee := Go.Callee.value (Go.Operand.func 12), args := #[Go.Operand.tmp 18], argTypes := #[2] }, type := 9, pos := "l03_write.go:66", after := #[{ on := 3, ground := Go.Ground.data }], guard := none }) rfl (fun K hK => ?_) AllReadyH.nil
  go_simp
  go_at_call 12
  refine (unhide DI _).mono ?_
  rintro e w2 ⟨rfl, hbw⟩
  try go_wp2_with fail
  refine hK.out _ _ (hHeld.trans (hbw.mono hHeld.size)) (fun hHeld => ?_)
  clear hK K
  try simp only [Act.put, List.setIfInBounds_toArray, List.set_cons_zero, List.set_cons_succ]
  refine wpAnyH_take (i := 5) (oi := { dst := some 20, op := Go.Op.binOp Go.BinOp.add 9 (Go.Operand.const (Go.Value.string { data := #[112, 117, 116, 32] })) (Go.Operand.tmp 19) 9, type := 9, pos := "l03_write.go:66", after := #[{ on := 4, ground := Go.Ground.data }], guard := none }) (v := ?v5) rfl (by kernel_rfl) (by kernel_rfl) (by kernel_rfl) (fun _ _ _ h => h) (Or.inl ⟨by rfl, ?h5⟩) hHeld ?r5
  case h5 =>
    intro wS hSw
    (try dsimp only at hSw)
    go_simp
    try with_reducible rfl
  case r5 =>
  simp only [Act.put, List.setIfInBounds_toArray, List.set_cons_zero, List.set_cons_succ]
  refine wpAnyH_take (i := 6) (oi := { dst := some 21, op := Go.Op.binOp Go.BinOp.add 9 (Go.Operand.tmp 20) (Go.Operand.const (Go.Value.string { data := #[32] })) 9, type := 9, pos := "l03_write.go:66", after := #[{ on := 5, ground := Go.Ground.data }], guard := none }) (v := ?v6) rfl (by kernel_rfl) (by kernel_rfl) (by kernel_rfl) (fun _ _ _ h => h) (Or.inl ⟨by rfl, ?h6⟩) hHeld ?r6
  case h6 =>
    intro wS hSw
    (try dsimp only at hSw)
    go_simp
    try with_reducible rfl
  case r6 =>
  simp only [Act.put, List.setIfInBounds_toArray, List.set_cons_zero, List.set_cons_succ]
  refine wpAnyH_ready (rs := [11]) (by kernel_rfl) (by simp) ?_
  refine AllReadyH.cons (o := { dst := some 26, op := Go.Op.call { callee := Go.Callee.value (Go.Operand.func 24), args := #[Go.Operand.tmp 25], argTypes := #[22] }, type := 9, pos := "l03_write.go:66", after := #[{ on := 10, ground := Go.Ground.data }, { on := 4, ground := Go.Ground.chain }], guard := none }) rfl (fun K hK => ?_) AllReadyH.nil
  go_simp
  go_at_call 24
  refine (unhide DV _ hHeld).mono ?_
  rintro e w3 ⟨rfl, hbw⟩
  try go_wp2_with fail
  refine hK.out _ _ (hHeld.trans (hbw.mono hHeld.size)) (fun hHeld => ?_)
  clear hK K
  try simp only [Act.put, List.setIfInBounds_toArray, List.set_cons_zero, List.set_cons_succ]
  refine wpAnyH_take (i := 12) (oi := { dst := some 27, op := Go.Op.binOp Go.BinOp.add 9 (Go.Operand.tmp 21) (Go.Operand.tmp 26) 9, type := 9, pos := "l03_write.go:66", after := #[{ on := 6, ground := Go.Ground.data }, { on := 11, ground := Go.Ground.data }], guard := none }) (v := ?v12) rfl (by kernel_rfl) (by kernel_rfl) (by kernel_rfl) (fun _ _ _ h => h) (Or.inl ⟨by rfl, ?h12⟩) hHeld ?r12
  case h12 =>
    intro wS hSw
    (try dsimp only at hSw)
    go_simp
    try with_reducible rfl
  case r12 =>
  simp only [Act.put, List.setIfInBounds_toArray, List.set_cons_zero, List.set_cons_succ]
  refine wpAnyH_take (i := 13) (oi := { dst := some 3, op := Go.Op.assign (Go.Operand.tmp 27), type := 9, pos := "l03_write.go:66", after := #[{ on := 12, ground := Go.Ground.data }, { on := 11, ground := Go.Ground.chain }, { on := 0, ground := Go.Ground.phase }, { on := 1, ground := Go.Ground.phase }, { on := 2, ground := Go.Ground.phase }, { on := 3, ground := Go.Ground.phase }, { on := 4, ground := Go.Ground.phase }, { on := 5, ground := Go.Ground.phase }, { on := 6, ground := Go.Ground.phase }, { on := 7, ground := Go.Ground.phase }, { on := 8, ground := Go.Ground.phase }, { on := 9, ground := Go.Ground.phase }, { on := 10, ground := Go.Ground.phase }, { on := 11, ground := Go.Ground.phase }, { on := 12, ground := Go.Ground.phase }], guard := none }) (v := ?v13) rfl (by kernel_rfl) (by kernel_rfl) (by kernel_rfl) (fun _ _ _ h => h) (Or.inl ⟨by rfl, ?h13⟩) hHeld ?r13
  case h13 =>
    intro wS hSw
    (try dsimp only at hSw)
    go_simp
    try with_reducible rfl
  case r13 =>
  simp only [Act.put, List.setIfInBounds_toArray, List.set_cons_zero, List.set_cons_succ]
  refine wpAnyH_done (by kernel_rfl) ?_ _
  refine NoPanic.normal ?_
  have HB2 := hide hHeld
  clear hHeld HB k0
  go_wp2_with fail
  refine wp_region_noPanic ?_
  refine wp_region_held_drew (S := fun w' => Below w.heap.size w w') (by kernel_rfl) (unhide HB2).drew (fun hHeld => ?_)
  generalize w3.drew = wF at hHeld ⊢
  refine wpAnyH_take (i := 0) (oi := { dst := some 28, op := Go.Op.move (Go.Operand.tmp 3), type := 9, pos := "l03_write.go:68", after := #[], guard := none }) (v := ?vb0) rfl (by kernel_rfl) (by kernel_rfl) (by kernel_rfl) (fun _ _ _ h => h) (Or.inl ⟨by rfl, ?hb0⟩) hHeld ?rb0
  case hb0 =>
    intro wS hSw
    (try dsimp only at hSw)
    go_simp
    try with_reducible rfl
  case rb0 =>
  simp only [Act.put, List.setIfInBounds_toArray, List.set_cons_zero, List.set_cons_succ]
  refine wpAnyH_take (i := 1) (oi := { dst := some 29, op := Go.Op.binOp Go.BinOp.add 9 (Go.Operand.tmp 28) (Go.Operand.const (Go.Value.string { data := #[32, 98, 121, 32] })) 9, type := 9, pos := "l03_write.go:68", after := #[{ on := 0, ground := Go.Ground.data }], guard := none }) (v := ?vb1) rfl (by kernel_rfl) (by kernel_rfl) (by kernel_rfl) (fun _ _ _ h => h) (Or.inl ⟨by rfl, ?hb1⟩) hHeld ?rb1
  case hb1 =>
    intro wS hSw
    (try dsimp only at hSw)
    go_simp
    try with_reducible rfl
  case rb1 =>
  simp only [Act.put, List.setIfInBounds_toArray, List.set_cons_zero, List.set_cons_succ]
  refine wpAnyH_take (i := 2) (oi := { dst := some 30, op := Go.Op.move (Go.Operand.tmp 0), type := 43, pos := "l03_write.go:68", after := #[], guard := none }) (v := ?vb2) rfl (by kernel_rfl) (by kernel_rfl) (by kernel_rfl) (fun _ _ _ h => h) (Or.inl ⟨by rfl, ?hb2⟩) hHeld ?rb2
  case hb2 =>
    intro wS hSw
    (try dsimp only at hSw)
    go_simp
    try with_reducible rfl
  case rb2 =>
  simp only [Act.put, List.setIfInBounds_toArray, List.set_cons_zero, List.set_cons_succ]
  refine wpAnyH_take (i := 3) (oi := { dst := some 31, op := Go.Op.nilCheck (Go.Operand.tmp 30), type := 0, pos := "l03_write.go:68", after := #[{ on := 2, ground := Go.Ground.data }], guard := none }) (v := ?vb3) rfl (by kernel_rfl) (by kernel_rfl) (by kernel_rfl) (fun _ _ _ h => h) (Or.inl ⟨by rfl, ?hb3⟩) hHeld ?rb3
  case hb3 =>
    intro wS hSw
    (try dsimp only at hSw)
    go_simp
    try with_reducible rfl
  case rb3 =>
  simp only [Act.put, List.setIfInBounds_toArray, List.set_cons_zero, List.set_cons_succ]
  refine wpAnyH_take (i := 4) (oi := { dst := some 32, op := Go.Op.fieldAddr 31 (Go.Operand.tmp 31) 3, type := 0, pos := "l03_write.go:68", after := #[{ on := 3, ground := Go.Ground.data }], guard := none }) (v := ?vb4) rfl (by kernel_rfl) (by kernel_rfl) (by kernel_rfl) (fun _ _ _ h => h) (Or.inl ⟨by rfl, ?hb4⟩) hHeld ?rb4
  case hb4 =>
    intro wS hSw
    (try dsimp only at hSw)
    go_simp
    try with_reducible rfl
  case rb4 =>
  simp only [Act.put, List.setIfInBounds_toArray, List.set_cons_zero, List.set_cons_succ]
  refine wpAnyH_take (i := 5) (oi := { dst := some 33, op := Go.Op.load 2 (Go.Operand.tmp 32), type := 2, pos := "l03_write.go:68", after := #[{ on := 4, ground := Go.Ground.data }], guard := none }) (v := ?vb5) rfl (by kernel_rfl) (by kernel_rfl) (by kernel_rfl) (fun _ _ _ h => h) (Or.inl ⟨by rfl, ?hb5⟩) hHeld ?rb5
  case hb5 =>
    intro wS hSw
    have y0 := (hSw.cell (p := ⟨b, o, none⟩) hbl).trans c0
    have y1 := (hSw.cell (p := ⟨b, o + 1, none⟩) hbl).trans c1
    have y2 := (hSw.cell (p := ⟨b, o + 2, none⟩) hbl).trans c2
    have y3 := (hSw.cell (p := ⟨b, o + 3, none⟩) hbl).trans c3
    have y4 := (hSw.cell (p := ⟨b, o + 4, none⟩) hbl).trans c4
    clear hSw
    (try dsimp only at hSw)
    go_simp
    try with_reducible rfl
  case rb5 =>
  simp only [Act.put, List.setIfInBounds_toArray, List.set_cons_zero, List.set_cons_succ]
  refine wpAnyH_take (i := 9) (oi := { dst := some 37, op := Go.Op.move (Go.Operand.tmp 0), type := 43, pos := "l03_write.go:68", after := #[], guard := none }) (v := ?vb9) rfl (by kernel_rfl) (by kernel_rfl) (by kernel_rfl) (fun _ _ _ h => h) (Or.inl ⟨by rfl, ?hb9⟩) hHeld ?rb9
  case hb9 =>
    intro wS hSw
    (try dsimp only at hSw)
    go_simp
    try with_reducible rfl
  case rb9 =>
  simp only [Act.put, List.setIfInBounds_toArray, List.set_cons_zero, List.set_cons_succ]
  refine wpAnyH_take (i := 10) (oi := { dst := some 38, op := Go.Op.nilCheck (Go.Operand.tmp 37), type := 0, pos := "l03_write.go:68", after := #[{ on := 9, ground := Go.Ground.data }], guard := none }) (v := ?vb10) rfl (by kernel_rfl) (by kernel_rfl) (by kernel_rfl) (fun _ _ _ h => h) (Or.inl ⟨by rfl, ?hb10⟩) hHeld ?rb10
  case hb10 =>
    intro wS hSw
    (try dsimp only at hSw)
    go_simp
    try with_reducible rfl
  case rb10 =>
  simp only [Act.put, List.setIfInBounds_toArray, List.set_cons_zero, List.set_cons_succ]
  refine wpAnyH_take (i := 11) (oi := { dst := some 39, op := Go.Op.fieldAddr 31 (Go.Operand.tmp 38) 4, type := 0, pos := "l03_write.go:68", after := #[{ on := 10, ground := Go.Ground.data }], guard := none }) (v := ?vb11) rfl (by kernel_rfl) (by kernel_rfl) (by kernel_rfl) (fun _ _ _ h => h) (Or.inl ⟨by rfl, ?hb11⟩) hHeld ?rb11
  case hb11 =>
    intro wS hSw
    (try dsimp only at hSw)
    go_simp
    try with_reducible rfl
  case rb11 =>
  simp only [Act.put, List.setIfInBounds_toArray, List.set_cons_zero, List.set_cons_succ]
  refine wpAnyH_take (i := 12) (oi := { dst := some 40, op := Go.Op.load 2 (Go.Operand.tmp 39), type := 2, pos := "l03_write.go:68", after := #[{ on := 11, ground := Go.Ground.data }], guard := none }) (v := ?vb12) rfl (by kernel_rfl) (by kernel_rfl) (by kernel_rfl) (fun _ _ _ h => h) (Or.inl ⟨by rfl, ?hb12⟩) hHeld ?rb12
  case hb12 =>
    intro wS hSw
    have y0 := (hSw.cell (p := ⟨b, o, none⟩) hbl).trans c0
    have y1 := (hSw.cell (p := ⟨b, o + 1, none⟩) hbl).trans c1
    have y2 := (hSw.cell (p := ⟨b, o + 2, none⟩) hbl).trans c2
    have y3 := (hSw.cell (p := ⟨b, o + 3, none⟩) hbl).trans c3
    have y4 := (hSw.cell (p := ⟨b, o + 4, none⟩) hbl).trans c4
    clear hSw
    (try dsimp only at hSw)
    go_simp
    try with_reducible rfl
  case rb12 =>
  simp only [Act.put, List.setIfInBounds_toArray, List.set_cons_zero, List.set_cons_succ]
  refine wpAnyH_ready (rs := [6]) (by kernel_rfl) (by simp) ?_
  refine AllReadyH.cons (o := { dst := some 34, op := Go.Op.call { callee := Go.Callee.value (Go.Operand.func 12), args := #[Go.Operand.tmp 33], argTypes := #[2] }, type := 9, pos := "l03_write.go:68", after := #[{ on := 5, ground := Go.Ground.data }], guard := none }) rfl (fun K hK => ?_) AllReadyH.nil
  go_simp
  go_at_call 12
  refine (unhide DS _).mono ?_
  rintro e w4 ⟨rfl, hbw⟩
  try go_wp2_with fail
  refine hK.out _ _ (hHeld.trans (hbw.mono hHeld.size)) (fun hHeld => ?_)
  clear hK K
  try simp only [Act.put, List.setIfInBounds_toArray, List.set_cons_zero, List.set_cons_succ]
  refine wpAnyH_take (i := 7) (oi := { dst := some 35, op := Go.Op.binOp Go.BinOp.add 9 (Go.Operand.tmp 29) (Go.Operand.tmp 34) 9, type := 9, pos := "l03_write.go:68", after := #[{ on := 1, ground := Go.Ground.data }, { on := 6, ground := Go.Ground.data }], guard := none }) (v := ?vb7) rfl (by kernel_rfl) (by kernel_rfl) (by kernel_rfl) (fun _ _ _ h => h) (Or.inl ⟨by rfl, ?hb7⟩) hHeld ?rb7
  case hb7 =>
    intro wS hSw
    (try dsimp only at hSw)
    go_simp
    try with_reducible rfl
  case rb7 =>
  simp only [Act.put, List.setIfInBounds_toArray, List.set_cons_zero, List.set_cons_succ]
  refine wpAnyH_take (i := 8) (oi := { dst := some 36, op := Go.Op.binOp Go.BinOp.add 9 (Go.Operand.tmp 35) (Go.Operand.const (Go.Value.string { data := #[32] })) 9, type := 9, pos := "l03_write.go:68", after := #[{ on := 7, ground := Go.Ground.data }], guard := none }) (v := ?vb8) rfl (by kernel_rfl) (by kernel_rfl) (by kernel_rfl) (fun _ _ _ h => h) (Or.inl ⟨by rfl, ?hb8⟩) hHeld ?rb8
  case hb8 =>
    intro wS hSw
    (try dsimp only at hSw)
    go_simp
    try with_reducible rfl
  case rb8 =>
  simp only [Act.put, List.setIfInBounds_toArray, List.set_cons_zero, List.set_cons_succ]
  refine wpAnyH_ready (rs := [13]) (by kernel_rfl) (by simp) ?_
  refine AllReadyH.cons (o := { dst := some 41, op := Go.Op.call { callee := Go.Callee.value (Go.Operand.func 12), args := #[Go.Operand.tmp 40], argTypes := #[2] }, type := 9, pos := "l03_write.go:68", after := #[{ on := 12, ground := Go.Ground.data }, { on := 6, ground := Go.Ground.chain }], guard := none }) rfl (fun K hK => ?_) AllReadyH.nil
  go_simp
  go_at_call 12
  refine (unhide DQ _).mono ?_
  rintro e w5 ⟨rfl, hbw⟩
  try go_wp2_with fail
  refine hK.out _ _ (hHeld.trans (hbw.mono hHeld.size)) (fun hHeld => ?_)
  clear hK K
  try simp only [Act.put, List.setIfInBounds_toArray, List.set_cons_zero, List.set_cons_succ]
  refine wpAnyH_take (i := 14) (oi := { dst := some 42, op := Go.Op.binOp Go.BinOp.add 9 (Go.Operand.tmp 36) (Go.Operand.tmp 41) 9, type := 9, pos := "l03_write.go:68", after := #[{ on := 8, ground := Go.Ground.data }, { on := 13, ground := Go.Ground.data }], guard := none }) (v := ?vb14) rfl (by kernel_rfl) (by kernel_rfl) (by kernel_rfl) (fun _ _ _ h => h) (Or.inl ⟨by rfl, ?hb14⟩) hHeld ?rb14
  case hb14 =>
    intro wS hSw
    (try dsimp only at hSw)
    go_simp
    try with_reducible rfl
  case rb14 =>
  simp only [Act.put, List.setIfInBounds_toArray, List.set_cons_zero, List.set_cons_succ]
  refine wpAnyH_take (i := 15) (oi := { dst := some 2, op := Go.Op.assign (Go.Operand.tmp 42), type := 9, pos := "l03_write.go:68", after := #[{ on := 14, ground := Go.Ground.data }, { on := 13, ground := Go.Ground.chain }, { on := 0, ground := Go.Ground.phase }, { on := 1, ground := Go.Ground.phase }, { on := 2, ground := Go.Ground.phase }, { on := 3, ground := Go.Ground.phase }, { on := 4, ground := Go.Ground.phase }, { on := 5, ground := Go.Ground.phase }, { on := 6, ground := Go.Ground.phase }, { on := 7, ground := Go.Ground.phase }, { on := 8, ground := Go.Ground.phase }, { on := 9, ground := Go.Ground.phase }, { on := 10, ground := Go.Ground.phase }, { on := 11, ground := Go.Ground.phase }, { on := 12, ground := Go.Ground.phase }, { on := 13, ground := Go.Ground.phase }, { on := 14, ground := Go.Ground.phase }], guard := none }) (v := ?vb15) rfl (by kernel_rfl) (by kernel_rfl) (by kernel_rfl) (fun _ _ _ h => h) (Or.inl ⟨by rfl, ?hb15⟩) hHeld ?rb15
  case hb15 =>
    intro wS hSw
    (try dsimp only at hSw)
    go_simp
    try with_reducible rfl
  case rb15 =>
  simp only [Act.put, List.setIfInBounds_toArray, List.set_cons_zero, List.set_cons_succ]
  refine wpAnyH_done (by kernel_rfl) ?_ _
  refine NoPanic.normal ?_
  have HB9 := hide hHeld
  clear hHeld
  go_wp2_with fail
  go_ret
  exact ⟨rfl, unhide HB9⟩

set_option maxRecDepth 100000 in
set_option maxHeartbeats 4000000 in
theorem l3Text_drop (b o : Nat) (i s q : Int) (v : Value) (w : World) (hc : WriteAtO w b o 2 i v s q) (hi : 1 ≤ i ∧ i ≤ 999) (hs : 1 ≤ s ∧ s ≤ 9) (hq : 1 ≤ q ∧ q ≤ 999) :
    Calls Tryd.prog 13 #[.pointer (some ⟨b, o, none⟩)] w fun e w' => e = .returned (str (writeTail s q (writeHead 2 i []))) ∧ Below w.heap.size w w' := by
  obtain ⟨c0, c1, c2, c3, c4⟩ := hc
  have hbl : b < w.heap.size := World.block_lt_of_cell? _ _ c0
  have l0 := dec_len i
  have l1 := dec_len s
  have l2 := dec_len q
  have HT : Hid (writeHead 2 i [] = [100, 114, 111, 112, 32] ++ dec i) := rfl
  have DI : Hid (∀ W, Calls Tryd.prog 12 #[.int .i64 i] W fun e w' => e = .returned (str (dec i)) ∧ Below W.heap.size W w') := fun W => digits i W (by omega) (by omega)
  have DS : Hid (∀ W, Calls Tryd.prog 12 #[.int .i64 s] W fun e w' => e = .returned (str (dec s)) ∧ Below W.heap.size W w') := fun W => digits s W (by omega) (by omega)
  have DQ : Hid (∀ W, Calls Tryd.prog 12 #[.int .i64 q] W fun e w' => e = .returned (str (dec q)) ∧ Below W.heap.size W w') := fun W => digits q W (by omega) (by omega)
  simp only [str] at DI DS DQ
  rw [unhide HT]
  unfold writeTail
  clear HT
  generalize dec i = di at *
  generalize dec s = ds at *
  generalize dec q = dq at *
  obtain ⟨e1, he1⟩ : ∃ e1, [100, 114, 111, 112, 32] ++ di = e1 := ⟨_, rfl⟩
  have s1 := addS he1 (by rw [← he1]; simp; omega)
  rw [he1]
  obtain ⟨p4, hp4⟩ : ∃ p4, e1 ++ [32, 98, 121, 32] = p4 := ⟨_, rfl⟩
  have s5 := addS hp4 (by rw [← hp4, ← he1]; simp; omega)
  obtain ⟨p5, hp5⟩ : ∃ p5, p4 ++ ds = p5 := ⟨_, rfl⟩
  have s6 := addS hp5 (by rw [← hp5, ← hp4, ← he1]; simp; omega)
  obtain ⟨p6, hp6⟩ : ∃ p6, p5 ++ [32] = p6 := ⟨_, rfl⟩
  have s7 := addS hp6 (by rw [← hp6, ← hp5, ← hp4, ← he1]; simp; omega)
  obtain ⟨p7, hp7⟩ : ∃ p7, p6 ++ dq = p7 := ⟨_, rfl⟩
  have s8 := addS hp7 (by rw [← hp7, ← hp6, ← hp5, ← hp4, ← he1]; simp; omega)
  rw [hp4, hp5, hp6, hp7]
  clear hp4 hp5 hp6 hp7 he1 l0 l1 l2
  simp only [str]
  go_enter Tryd.func13, Tryd.ntmps13
  go_wp2_with fail
  refine (unhide DI _).mono ?_
  rintro e w1 ⟨rfl, hb1⟩
  have HB := hide hb1
  have k0 := cell_keep hb1 c0
  clear hb1
  go_wp2_with fail
  refine wp_region_noPanic ?_
  refine wp_region_held_drew (S := fun w' => Below w.heap.size w w') (by kernel_rfl) (unhide HB).drew (fun hHeld => ?_)
  generalize w1.drew = wF at hHeld ⊢
  refine wpAnyH_take (i := 0) (oi := { dst := some 28, op := Go.Op.move (Go.Operand.tmp 3), type := 9, pos := "l03_write.go:68", after := #[], guard := none }) (v := ?vb0) rfl (by kernel_rfl) (by kernel_rfl) (by kernel_rfl) (fun _ _ _ h => h) (Or.inl ⟨by rfl, ?hb0⟩) hHeld ?rb0
  case hb0 =>
    intro wS hSw
    (try dsimp only at hSw)
    go_simp
    try with_reducible rfl
  case rb0 =>
  simp only [Act.put, List.setIfInBounds_toArray, List.set_cons_zero, List.set_cons_succ]
  refine wpAnyH_take (i := 1) (oi := { dst := some 29, op := Go.Op.binOp Go.BinOp.add 9 (Go.Operand.tmp 28) (Go.Operand.const (Go.Value.string { data := #[32, 98, 121, 32] })) 9, type := 9, pos := "l03_write.go:68", after := #[{ on := 0, ground := Go.Ground.data }], guard := none }) (v := ?vb1) rfl (by kernel_rfl) (by kernel_rfl) (by kernel_rfl) (fun _ _ _ h => h) (Or.inl ⟨by rfl, ?hb1⟩) hHeld ?rb1
  case hb1 =>
    intro wS hSw
    (try dsimp only at hSw)
    go_simp
    try with_reducible rfl
  case rb1 =>
  simp only [Act.put, List.setIfInBounds_toArray, List.set_cons_zero, List.set_cons_succ]
  refine wpAnyH_take (i := 2) (oi := { dst := some 30, op := Go.Op.move (Go.Operand.tmp 0), type := 43, pos := "l03_write.go:68", after := #[], guard := none }) (v := ?vb2) rfl (by kernel_rfl) (by kernel_rfl) (by kernel_rfl) (fun _ _ _ h => h) (Or.inl ⟨by rfl, ?hb2⟩) hHeld ?rb2
  case hb2 =>
    intro wS hSw
    (try dsimp only at hSw)
    go_simp
    try with_reducible rfl
  case rb2 =>
  simp only [Act.put, List.setIfInBounds_toArray, List.set_cons_zero, List.set_cons_succ]
  refine wpAnyH_take (i := 3) (oi := { dst := some 31, op := Go.Op.nilCheck (Go.Operand.tmp 30), type := 0, pos := "l03_write.go:68", after := #[{ on := 2, ground := Go.Ground.data }], guard := none }) (v := ?vb3) rfl (by kernel_rfl) (by kernel_rfl) (by kernel_rfl) (fun _ _ _ h => h) (Or.inl ⟨by rfl, ?hb3⟩) hHeld ?rb3
  case hb3 =>
    intro wS hSw
    (try dsimp only at hSw)
    go_simp
    try with_reducible rfl
  case rb3 =>
  simp only [Act.put, List.setIfInBounds_toArray, List.set_cons_zero, List.set_cons_succ]
  refine wpAnyH_take (i := 4) (oi := { dst := some 32, op := Go.Op.fieldAddr 31 (Go.Operand.tmp 31) 3, type := 0, pos := "l03_write.go:68", after := #[{ on := 3, ground := Go.Ground.data }], guard := none }) (v := ?vb4) rfl (by kernel_rfl) (by kernel_rfl) (by kernel_rfl) (fun _ _ _ h => h) (Or.inl ⟨by rfl, ?hb4⟩) hHeld ?rb4
  case hb4 =>
    intro wS hSw
    (try dsimp only at hSw)
    go_simp
    try with_reducible rfl
  case rb4 =>
  simp only [Act.put, List.setIfInBounds_toArray, List.set_cons_zero, List.set_cons_succ]
  refine wpAnyH_take (i := 5) (oi := { dst := some 33, op := Go.Op.load 2 (Go.Operand.tmp 32), type := 2, pos := "l03_write.go:68", after := #[{ on := 4, ground := Go.Ground.data }], guard := none }) (v := ?vb5) rfl (by kernel_rfl) (by kernel_rfl) (by kernel_rfl) (fun _ _ _ h => h) (Or.inl ⟨by rfl, ?hb5⟩) hHeld ?rb5
  case hb5 =>
    intro wS hSw
    have y0 := (hSw.cell (p := ⟨b, o, none⟩) hbl).trans c0
    have y1 := (hSw.cell (p := ⟨b, o + 1, none⟩) hbl).trans c1
    have y2 := (hSw.cell (p := ⟨b, o + 2, none⟩) hbl).trans c2
    have y3 := (hSw.cell (p := ⟨b, o + 3, none⟩) hbl).trans c3
    have y4 := (hSw.cell (p := ⟨b, o + 4, none⟩) hbl).trans c4
    clear hSw
    (try dsimp only at hSw)
    go_simp
    try with_reducible rfl
  case rb5 =>
  simp only [Act.put, List.setIfInBounds_toArray, List.set_cons_zero, List.set_cons_succ]
  refine wpAnyH_take (i := 9) (oi := { dst := some 37, op := Go.Op.move (Go.Operand.tmp 0), type := 43, pos := "l03_write.go:68", after := #[], guard := none }) (v := ?vb9) rfl (by kernel_rfl) (by kernel_rfl) (by kernel_rfl) (fun _ _ _ h => h) (Or.inl ⟨by rfl, ?hb9⟩) hHeld ?rb9
  case hb9 =>
    intro wS hSw
    (try dsimp only at hSw)
    go_simp
    try with_reducible rfl
  case rb9 =>
  simp only [Act.put, List.setIfInBounds_toArray, List.set_cons_zero, List.set_cons_succ]
  refine wpAnyH_take (i := 10) (oi := { dst := some 38, op := Go.Op.nilCheck (Go.Operand.tmp 37), type := 0, pos := "l03_write.go:68", after := #[{ on := 9, ground := Go.Ground.data }], guard := none }) (v := ?vb10) rfl (by kernel_rfl) (by kernel_rfl) (by kernel_rfl) (fun _ _ _ h => h) (Or.inl ⟨by rfl, ?hb10⟩) hHeld ?rb10
  case hb10 =>
    intro wS hSw
    (try dsimp only at hSw)
    go_simp
    try with_reducible rfl
  case rb10 =>
  simp only [Act.put, List.setIfInBounds_toArray, List.set_cons_zero, List.set_cons_succ]
  refine wpAnyH_take (i := 11) (oi := { dst := some 39, op := Go.Op.fieldAddr 31 (Go.Operand.tmp 38) 4, type := 0, pos := "l03_write.go:68", after := #[{ on := 10, ground := Go.Ground.data }], guard := none }) (v := ?vb11) rfl (by kernel_rfl) (by kernel_rfl) (by kernel_rfl) (fun _ _ _ h => h) (Or.inl ⟨by rfl, ?hb11⟩) hHeld ?rb11
  case hb11 =>
    intro wS hSw
    (try dsimp only at hSw)
    go_simp
    try with_reducible rfl
  case rb11 =>
  simp only [Act.put, List.setIfInBounds_toArray, List.set_cons_zero, List.set_cons_succ]
  refine wpAnyH_take (i := 12) (oi := { dst := some 40, op := Go.Op.load 2 (Go.Operand.tmp 39), type := 2, pos := "l03_write.go:68", after := #[{ on := 11, ground := Go.Ground.data }], guard := none }) (v := ?vb12) rfl (by kernel_rfl) (by kernel_rfl) (by kernel_rfl) (fun _ _ _ h => h) (Or.inl ⟨by rfl, ?hb12⟩) hHeld ?rb12
  case hb12 =>
    intro wS hSw
    have y0 := (hSw.cell (p := ⟨b, o, none⟩) hbl).trans c0
    have y1 := (hSw.cell (p := ⟨b, o + 1, none⟩) hbl).trans c1
    have y2 := (hSw.cell (p := ⟨b, o + 2, none⟩) hbl).trans c2
    have y3 := (hSw.cell (p := ⟨b, o + 3, none⟩) hbl).trans c3
    have y4 := (hSw.cell (p := ⟨b, o + 4, none⟩) hbl).trans c4
    clear hSw
    (try dsimp only at hSw)
    go_simp
    try with_reducible rfl
  case rb12 =>
  simp only [Act.put, List.setIfInBounds_toArray, List.set_cons_zero, List.set_cons_succ]
  refine wpAnyH_ready (rs := [6]) (by kernel_rfl) (by simp) ?_
  refine AllReadyH.cons (o := { dst := some 34, op := Go.Op.call { callee := Go.Callee.value (Go.Operand.func 12), args := #[Go.Operand.tmp 33], argTypes := #[2] }, type := 9, pos := "l03_write.go:68", after := #[{ on := 5, ground := Go.Ground.data }], guard := none }) rfl (fun K hK => ?_) AllReadyH.nil
  go_simp
  go_at_call 12
  refine (unhide DS _).mono ?_
  rintro e w4 ⟨rfl, hbw⟩
  try go_wp2_with fail
  refine hK.out _ _ (hHeld.trans (hbw.mono hHeld.size)) (fun hHeld => ?_)
  clear hK K
  try simp only [Act.put, List.setIfInBounds_toArray, List.set_cons_zero, List.set_cons_succ]
  refine wpAnyH_take (i := 7) (oi := { dst := some 35, op := Go.Op.binOp Go.BinOp.add 9 (Go.Operand.tmp 29) (Go.Operand.tmp 34) 9, type := 9, pos := "l03_write.go:68", after := #[{ on := 1, ground := Go.Ground.data }, { on := 6, ground := Go.Ground.data }], guard := none }) (v := ?vb7) rfl (by kernel_rfl) (by kernel_rfl) (by kernel_rfl) (fun _ _ _ h => h) (Or.inl ⟨by rfl, ?hb7⟩) hHeld ?rb7
  case hb7 =>
    intro wS hSw
    (try dsimp only at hSw)
    go_simp
    try with_reducible rfl
  case rb7 =>
  simp only [Act.put, List.setIfInBounds_toArray, List.set_cons_zero, List.set_cons_succ]
  refine wpAnyH_take (i := 8) (oi := { dst := some 36, op := Go.Op.binOp Go.BinOp.add 9 (Go.Operand.tmp 35) (Go.Operand.const (Go.Value.string { data := #[32] })) 9, type := 9, pos := "l03_write.go:68", after := #[{ on := 7, ground := Go.Ground.data }], guard := none }) (v := ?vb8) rfl (by kernel_rfl) (by kernel_rfl) (by kernel_rfl) (fun _ _ _ h => h) (Or.inl ⟨by rfl, ?hb8⟩) hHeld ?rb8
  case hb8 =>
    intro wS hSw
    (try dsimp only at hSw)
    go_simp
    try with_reducible rfl
  case rb8 =>
  simp only [Act.put, List.setIfInBounds_toArray, List.set_cons_zero, List.set_cons_succ]
  refine wpAnyH_ready (rs := [13]) (by kernel_rfl) (by simp) ?_
  refine AllReadyH.cons (o := { dst := some 41, op := Go.Op.call { callee := Go.Callee.value (Go.Operand.func 12), args := #[Go.Operand.tmp 40], argTypes := #[2] }, type := 9, pos := "l03_write.go:68", after := #[{ on := 12, ground := Go.Ground.data }, { on := 6, ground := Go.Ground.chain }], guard := none }) rfl (fun K hK => ?_) AllReadyH.nil
  go_simp
  go_at_call 12
  refine (unhide DQ _).mono ?_
  rintro e w5 ⟨rfl, hbw⟩
  try go_wp2_with fail
  refine hK.out _ _ (hHeld.trans (hbw.mono hHeld.size)) (fun hHeld => ?_)
  clear hK K
  try simp only [Act.put, List.setIfInBounds_toArray, List.set_cons_zero, List.set_cons_succ]
  refine wpAnyH_take (i := 14) (oi := { dst := some 42, op := Go.Op.binOp Go.BinOp.add 9 (Go.Operand.tmp 36) (Go.Operand.tmp 41) 9, type := 9, pos := "l03_write.go:68", after := #[{ on := 8, ground := Go.Ground.data }, { on := 13, ground := Go.Ground.data }], guard := none }) (v := ?vb14) rfl (by kernel_rfl) (by kernel_rfl) (by kernel_rfl) (fun _ _ _ h => h) (Or.inl ⟨by rfl, ?hb14⟩) hHeld ?rb14
  case hb14 =>
    intro wS hSw
    (try dsimp only at hSw)
    go_simp
    try with_reducible rfl
  case rb14 =>
  simp only [Act.put, List.setIfInBounds_toArray, List.set_cons_zero, List.set_cons_succ]
  refine wpAnyH_take (i := 15) (oi := { dst := some 2, op := Go.Op.assign (Go.Operand.tmp 42), type := 9, pos := "l03_write.go:68", after := #[{ on := 14, ground := Go.Ground.data }, { on := 13, ground := Go.Ground.chain }, { on := 0, ground := Go.Ground.phase }, { on := 1, ground := Go.Ground.phase }, { on := 2, ground := Go.Ground.phase }, { on := 3, ground := Go.Ground.phase }, { on := 4, ground := Go.Ground.phase }, { on := 5, ground := Go.Ground.phase }, { on := 6, ground := Go.Ground.phase }, { on := 7, ground := Go.Ground.phase }, { on := 8, ground := Go.Ground.phase }, { on := 9, ground := Go.Ground.phase }, { on := 10, ground := Go.Ground.phase }, { on := 11, ground := Go.Ground.phase }, { on := 12, ground := Go.Ground.phase }, { on := 13, ground := Go.Ground.phase }, { on := 14, ground := Go.Ground.phase }], guard := none }) (v := ?vb15) rfl (by kernel_rfl) (by kernel_rfl) (by kernel_rfl) (fun _ _ _ h => h) (Or.inl ⟨by rfl, ?hb15⟩) hHeld ?rb15
  case hb15 =>
    intro wS hSw
    (try dsimp only at hSw)
    go_simp
    try with_reducible rfl
  case rb15 =>
  simp only [Act.put, List.setIfInBounds_toArray, List.set_cons_zero, List.set_cons_succ]
  refine wpAnyH_done (by kernel_rfl) ?_ _
  refine NoPanic.normal ?_
  have HB9 := hide hHeld
  clear hHeld
  go_wp2_with fail
  go_ret
  exact ⟨rfl, unhide HB9⟩

/-- The model's l3Text. -/
theorem l3TextO (b o : Nat) (k i : Int) (v : Value) (s q : Int) (zs : List Int) (w : World) (hc : WriteAtO w b o k i v s q) (h : IsInts w v zs) (hf : writeFault k i zs s q = 0) :
    Calls Tryd.prog 13 #[.pointer (some ⟨b, o, none⟩)] w fun e w' => e = .returned (str (writeText k i zs s q)) ∧ Below w.heap.size w w' := by
  rw [writeText, if_pos hf]
  obtain ⟨hi, hs, hq, hk⟩ := writeFault_zero hf
  rcases hk with ⟨rfl, hv⟩ | ⟨rfl, rfl⟩
  · obtain ⟨vb, off, cap, x, y, z, rfl, rfl, -, z0, z1, z2⟩ := h.three (vecFault_zero hv).1
    obtain ⟨bx, bY, bz⟩ := fault3 hv
    exact l3Text_put b o i s q x y z vb off cap w hc z0 z1 z2 hi hs hq bx bY bz
  · exact l3Text_drop b o i s q v w hc hi hs hq
theorem l3Text (b : Nat) (k i : Int) (v : Value) (s q : Int) (zs : List Int) (w : World) (hc : WriteAt w b k i v s q) (h : IsInts w v zs) (hf : writeFault k i zs s q = 0) :
    Calls Tryd.prog 13 #[.pointer (some ⟨b, 0, none⟩)] w fun e w' => e = .returned (str (writeText k i zs s q)) ∧ Below w.heap.size w w' :=
  l3TextO b 0 k i v s q zs w ⟨hc.1, hc.2.1, hc.2.2.1, hc.2.2.2.1, hc.2.2.2.2⟩ h hf

end Go.Proofs.YtkmfkaljdngigaaDoor

namespace Go.Proofs.YtkmfkaljdngigaaDoor
open Go.RowKit

def wtextR (x : DWrite) : DTextResult := ⟨writeFault x.kind x.id x.vec x.session x.seq, ⟨(writeText x.kind x.id x.vec x.session x.seq).toArray⟩⟩
theorem fault_codes (k i : Int) (zs : List Int) (s q : Int) : (Lit.int .i64 (writeFault k i zs s q)).wf = true := by
  have hv : vecFault zs = 0 ∨ vecFault zs = 1 ∨ vecFault zs = 3 := by
    unfold vecFault
    split
    · split
      · exact Or.inl rfl
      · exact Or.inr (Or.inr rfl)
    · exact Or.inr (Or.inl rfl)
  unfold writeFault
  split
  · split
    · split
      · rcases hv with h | h | h <;> rw [h] <;> rfl
      · rfl
    · rfl
  · rfl
theorem own_text {w : World} {c : Int} {s : ByteArray} {lo hi : Nat} (h : (Lit.int .i64 c).wf = true) : Lay.tTextResult.OwnIn w [.int .i64 c, .string s] ⟨c, s⟩ lo hi :=
  ⟨[], ⟨lies_TextResult.2 ⟨rfl, rfl, h⟩, by simp, by simp⟩, by simp⟩
def ToldT (w w' : World) (e : Ending) (y : DTextResult) : Prop := ∃ cs, e = .returned (.agg cs.toArray) ∧ Lay.tTextResult.OwnIn w' cs y w.heap.size w'.heap.size ∧ Below w.heap.size w w'

end Go.Proofs.YtkmfkaljdngigaaDoor
