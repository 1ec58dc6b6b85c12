/-
  A vector's text: VecText of the program writes the three numbers in decimal, commas between.
  Condition: the table of powers of ten holds what the program's text lays there.
-/
import Derived.Test.YtgjjmbliahhhjaaDoorChecked
import Derived.Test.YtgjjmbliahhhjaaDoorVecOf
import Derived.Test.YtgjjmbliahhhjaaDoorDigits
import Derived.Test.YtgjjmbliahhhjaaDoorShelf
import Derived.Lib.LaidTab
import Derived.Lib.AppendIntMem
namespace Go.Proofs.YtgjjmbliahhhjaaDoor
open Go.RowKit

theorem decF_digits (f : Nat) : ∀ n, n < 10 ^ (f + 1) → decF (f + 1) n = Lib.decDigits n := by
  induction f with
  | zero =>
    intro n hn
    have h : n < 10 := by omega
    rw [decF, if_pos h, Lib.decDigits, dif_pos h]
    rfl
  | succ f ih =>
    intro n hn
    by_cases h : n < 10
    · rw [decF, if_pos h, Lib.decDigits, dif_pos h]
      rfl
    · rw [decF, if_neg h, Lib.decDigits, dif_neg h, ih (n / 10) (by rw [Nat.pow_succ] at hn; omega)]
      rfl
theorem dec_itoa (n : Int) (h1 : -9999 ≤ n) (h2 : n ≤ 9999) : Lib.itoa n = dec n := by
  unfold Lib.itoa dec
  by_cases h : n < 0
  · rw [if_pos h, if_pos h, decF_digits 3 _ (by omega)]
  · rw [if_neg h, if_neg h, decF_digits 3 _ (by omega)]
theorem dec_len (n : Int) : (dec n).length ≤ 5 := by
  unfold dec
  split
  · have := decF_len 4 n.natAbs; simp; omega
  · have := decF_len 4 n.toNat; omega

/-- The text of three numbers. -/
def text3 (x y z : Int) : Bytes := dec x ++ 44 :: (dec y ++ 44 :: dec z)
theorem join3 (a b c : Bytes) : Lib.join [a, b, c] [44] = a ++ 44 :: (b ++ 44 :: c) := by
  simp [Lib.join, List.intercalate]
theorem text3_len (x y z : Int) : (text3 x y z).length ≤ 17 := by
  have := dec_len x
  have := dec_len y
  have := dec_len z
  simp [text3]
  omega

def Tab (w : World) : Prop := Lib.TabIs Tryd.prog w "internal/strconv.uint64pow10" .u64 Lib.pow10Tab
theorem Tab.later {w w' : World} (h : Tab w) (hb : Below w.heap.size w w') : Tab w' := Lib.tabBelow_of_tabIs h w' hb

theorem grow_below (w : World) (k : Nat) (os : Array Obj) : Below w.heap.size w (Go.Sort.grow (w.drewN k) os) :=
  ⟨rfl, rfl, rfl, by simp [Go.Sort.grow], fun i hi => by simp [Go.Sort.grow, Array.getElem?_append, hi]⟩

theorem formatC (n : Int) (w : World) (h1 : -9999 ≤ n) (h2 : n ≤ 9999) (ht : Tab w) :
    Calls Tryd.prog 42 #[.int .i64 n, .int .i64 10] w fun e w' => e = .returned (str (dec n)) ∧ Below w.heap.size w w' := by
  refine (Tryd.strconv_FormatInt_10 n (by omega) (by omega) w ht).mono ?_
  rintro e w' ⟨rfl, k, os, rfl⟩
  rw [dec_itoa n h1 h2]
  exact ⟨rfl, grow_below _ _ _⟩

/-- A block of new cells that may be written, here three of them, is there. -/
def Row3 (w : World) (g : Nat) (a b c : Value) : Prop := g < w.heap.size ∧ (∀ o, w.frozen? ⟨g, o, none⟩ = false) ∧ w.cell? ⟨g, 0, none⟩ = some a ∧ w.cell? ⟨g, 1, none⟩ = some b ∧ w.cell? ⟨g, 2, none⟩ = some c
def Row2 (w : World) (g : Nat) (a b : Value) : Prop := g < w.heap.size ∧ (∀ o, w.frozen? ⟨g, o, none⟩ = false) ∧ w.cell? ⟨g, 0, none⟩ = some a ∧ w.cell? ⟨g, 1, none⟩ = some b
theorem Row3.later {w w' : World} {g : Nat} {a b c : Value} (h : Row3 w g a b c) (hb : Below w.heap.size w w') : Row3 w' g a b c :=
  ⟨Nat.lt_of_lt_of_le h.1 hb.size, fun o => (hb.frozen (p := ⟨g, o, none⟩) h.1).trans (h.2.1 o), cell_keep hb h.2.2.1, cell_keep hb h.2.2.2.1, cell_keep hb h.2.2.2.2⟩
theorem Row2.later {w w' : World} {g : Nat} {a b : Value} (h : Row2 w g a b) (hb : Below w.heap.size w w') : Row2 w' g a b :=
  ⟨Nat.lt_of_lt_of_le h.1 hb.size, fun o => (hb.frozen (p := ⟨g, o, none⟩) h.1).trans (h.2.1 o), cell_keep hb h.2.2.1, cell_keep hb h.2.2.2⟩
theorem Row3.set0 {w : World} {g : Nat} {a b c : Value} (h : Row3 w g a b c) (v : Value) : Row3 (w.setCell ⟨g, 0, none⟩ v) g v b c := by
  obtain ⟨h0, h1, h2, h3, h4⟩ := h
  refine ⟨by simpa using h0, fun o => ?_, ?_, ?_, ?_⟩ <;> simp [go_sem, h1, h2, h3, h4]
theorem Row3.set1 {w : World} {g : Nat} {a b c : Value} (h : Row3 w g a b c) (v : Value) : Row3 (w.setCell ⟨g, 1, none⟩ v) g a v c := by
  obtain ⟨h0, h1, h2, h3, h4⟩ := h
  refine ⟨by simpa using h0, fun o => ?_, ?_, ?_, ?_⟩ <;> simp [go_sem, h1, h2, h3, h4]
theorem Row3.set2 {w : World} {g : Nat} {a b c : Value} (h : Row3 w g a b c) (v : Value) : Row3 (w.setCell ⟨g, 2, none⟩ v) g a b v := by
  obtain ⟨h0, h1, h2, h3, h4⟩ := h
  refine ⟨by simpa using h0, fun o => ?_, ?_, ?_, ?_⟩ <;> simp [go_sem, h1, h2, h3, h4]
theorem Row2.setOther {w : World} {g k : Nat} {a b : Value} (h : Row2 w g a b) (hk : g ≠ k) (o : Nat) (v : Value) : Row2 (w.setCell ⟨k, o, none⟩ v) g a b := by
  obtain ⟨h0, h1, h2, h3⟩ := h
  refine ⟨by simpa using h0, fun o => ?_, ?_, ?_⟩ <;> simp [go_sem, h1, h2, h3]
theorem Row3.new {w : World} {T : TypeId} {a b c : Value} : Row3 (w.alloc (.cells #[a, b, c] T)) w.heap.size a b c := by
  refine ⟨by simp, fun o => ?_, ?_, ?_, ?_⟩ <;> simp [go_sem]
theorem Row2.new {w : World} {T : TypeId} {a b : Value} : Row2 (w.alloc (.cells #[a, b] T)) w.heap.size a b := by
  refine ⟨by simp, fun o => ?_, ?_, ?_⟩ <;> simp [go_sem]

/-- What the world keeps while the words are written: the answer's block, the words' block. -/
def Words (w : World) (r g : Nat) (w0 : World) (a b c : Bytes) : Prop := Row2 w r (.int .i64 0) (str []) ∧ Row3 w g (str a) (str b) (str c) ∧ Below w0.heap.size w0 w ∧ w0.heap.size ≤ r ∧ r < g
theorem Words.later {w w' : World} {r g : Nat} {w0 : World} {a b c : Bytes} (h : Words w r g w0 a b c) (hb : Below w.heap.size w w') : Words w' r g w0 a b c :=
  ⟨h.1.later hb, h.2.1.later hb, below_keep h.2.2.1 hb, h.2.2.2⟩
theorem Words.set0 {w : World} {r g : Nat} {w0 : World} {a b c : Bytes} (h : Words w r g w0 a b c) (v : Bytes) : Words (w.setCell ⟨g, 0, none⟩ (str v)) r g w0 v b c :=
  ⟨h.1.setOther (by have := h.2.2.2; omega) _ _, h.2.1.set0 _, h.2.2.1.setCell (by have := h.2.2.2; show w0.heap.size ≤ g; omega) _, h.2.2.2⟩
theorem Words.set1 {w : World} {r g : Nat} {w0 : World} {a b c : Bytes} (h : Words w r g w0 a b c) (v : Bytes) : Words (w.setCell ⟨g, 1, none⟩ (str v)) r g w0 a v c :=
  ⟨h.1.setOther (by have := h.2.2.2; omega) _ _, h.2.1.set1 _, h.2.2.1.setCell (by have := h.2.2.2; show w0.heap.size ≤ g; omega) _, h.2.2.2⟩
theorem Words.set2 {w : World} {r g : Nat} {w0 : World} {a b c : Bytes} (h : Words w r g w0 a b c) (v : Bytes) : Words (w.setCell ⟨g, 2, none⟩ (str v)) r g w0 a b v :=
  ⟨h.1.setOther (by have := h.2.2.2; omega) _ _, h.2.1.set2 _, h.2.2.1.setCell (by have := h.2.2.2; show w0.heap.size ≤ g; omega) _, h.2.2.2⟩

theorem joinC (g : Nat) (a b c : Bytes) (w : World) (h : Row3 w g (str a) (str b) (str c)) (hl : (a ++ 44 :: (b ++ 44 :: c)).length ≤ 1000) :
    Calls Tryd.prog 23 #[.slice (some ⟨g, 0, none⟩) 3 3, .string ⟨#[44]⟩] w fun e w' => e = .returned (str (a ++ 44 :: (b ++ 44 :: c))) ∧ Below w.heap.size w w' := by
  obtain ⟨g0, -, g2, g3, g4⟩ := h
  have e : Lib.join ([⟨a.toArray⟩, ⟨b.toArray⟩, ⟨c.toArray⟩].map fun x : ByteArray => x.data.toList) (⟨#[44]⟩ : ByteArray).data.toList = a ++ 44 :: (b ++ 44 :: c) := by
    rw [← join3]
    simp
  have := Tryd.strings_Join g 0 3 [⟨a.toArray⟩, ⟨b.toArray⟩, ⟨c.toArray⟩] ⟨#[44]⟩ w (fun j x hj => by
    match j, hj with
    | 0, hj => simp at hj; subst hj; exact g2
    | 1, hj => simp at hj; subst hj; exact g3
    | 2, hj => simp at hj; subst hj; exact g4
    | j + 3, hj => simp at hj) g0 (by simp) (by simp) (by rw [e]; omega)
  rw [e] at this
  exact this

set_option maxHeartbeats 1000000 in
theorem implText_ok (v : Value) (x y z : Int) (w : World) (h : IsInts w v [x, y, z]) (hf : vecFault [x, y, z] = 0) (ht : Tab w) :
    Calls Tryd.prog 40 #[v] w fun e w' => e = .returned (.agg #[.int .i64 0, str (text3 x y z)]) ∧ Below w.heap.size w w' := by
  obtain ⟨hx, hy, hz⟩ := fault3 hf
  have HT := hide ht
  clear ht
  have hmk : ∀ w : World, (Instr.makeSlice 49 (.int .i64 3) (.int .i64 3)).run Tryd.prog w = .ok (.slice (some ⟨w.heap.size, 0, none⟩) 3 3) (w.alloc (.cells #[.string ⟨#[]⟩, .string ⟨#[]⟩, .string ⟨#[]⟩] 9)) := fun _ => by kernel_rfl
  have i0 : ∀ w : World, (Instr.index 66 (.agg #[.int .i64 x, .int .i64 y, .int .i64 z]) (.int .i64 0)).run Tryd.prog w = .ok (.int .i64 x) w := fun _ => by kernel_rfl
  have i1 : ∀ w : World, (Instr.index 66 (.agg #[.int .i64 x, .int .i64 y, .int .i64 z]) (.int .i64 1)).run Tryd.prog w = .ok (.int .i64 y) w := fun _ => by kernel_rfl
  have i2 : ∀ w : World, (Instr.index 66 (.agg #[.int .i64 x, .int .i64 y, .int .i64 z]) (.int .i64 2)).run Tryd.prog w = .ok (.int .i64 z) w := fun _ => by kernel_rfl
  go_enter Tryd.func40, Tryd.ntmps40
  go_wp2_with fail
  refine (vectorOf_ok v x y z _ (h.later ((Below.refl _ _).alloc (Nat.le_refl _) _)) hf).mono ?_
  rintro e w1 ⟨rfl, hb⟩
  have hr : Row2 w1 w.heap.size (.int .i64 0) (str []) := Row2.new.later hb
  have hB1 : Below w.heap.size w w1 := ((Below.refl _ _).alloc (Nat.le_refl _) _).trans (hb.mono (by simp))
  have hz0 := hr.1
  have HR := hide hr
  have HB := hide hB1
  clear hb hB1 h hf hr
  simp only [arr3]
  go_wp2_with fail
  refine wp_loop_rounds 4 ?_
  rw [rounds_succ]
  go_wp2_with fail
  have wa : Words ((w1.alloc (.cells #[.int .i64 x, .int .i64 y, .int .i64 z] 66)).alloc (.cells #[.string ⟨#[]⟩, .string ⟨#[]⟩, .string ⟨#[]⟩] 9)) w.heap.size (w1.heap.size + 1) w [] [] [] := by
    refine ⟨((unhide HR).later ((Below.refl _ _).alloc (Nat.le_refl _) _)).later ((Below.refl _ _).alloc (Nat.le_refl _) _), ?_, ((unhide HB).alloc (by omega) _).alloc (by simp; omega) _, Nat.le_refl _, by omega⟩
    have := Row3.new (w := w1.alloc (.cells #[.int .i64 x, .int .i64 y, .int .i64 z] 66)) (T := 9) (a := str []) (b := str []) (c := str [])
    simpa [str] using this
  refine (formatC x _ (by omega) (by omega) ((unhide HT).later wa.2.2.1)).mono ?_
  rintro e w2 ⟨rfl, hb2⟩
  have wb := wa.later hb2
  have hz2 : w1.heap.size < w2.heap.size := by have := hb2.size; simp at this; omega
  obtain ⟨-, ⟨g0, g1, g2, g3, g4⟩, -, -, -⟩ := id wb
  have WB := hide wb
  clear wa hb2 wb HB HR
  simp only [str] at g2 g3 g4 ⊢
  go_wp2_with fail
  rw [rounds_succ]
  go_wp2_with fail
  have wa : Words (w2.setCell ⟨w1.heap.size + 1, 0, none⟩ (str (dec x))) w.heap.size (w1.heap.size + 1) w (dec x) [] [] := (unhide WB).set0 (dec x)
  clear g0 g1 g2 g3 g4 WB
  refine (formatC y _ (by omega) (by omega) ((unhide HT).later wa.2.2.1)).mono ?_
  rintro e w3 ⟨rfl, hb2⟩
  have wb := wa.later hb2
  have hz3 : w1.heap.size < w3.heap.size := by have := hb2.size; simp at this; omega
  obtain ⟨-, ⟨g0, g1, g2, g3, g4⟩, -, -, -⟩ := id wb
  have WB := hide wb
  clear wa hb2 wb
  simp only [str] at g2 g3 g4 ⊢
  go_wp2_with fail
  rw [rounds_succ]
  go_wp2_with fail
  have wa : Words (w3.setCell ⟨w1.heap.size + 1, 1, none⟩ (str (dec y))) w.heap.size (w1.heap.size + 1) w (dec x) (dec y) [] := (unhide WB).set1 (dec y)
  clear g0 g1 g2 g3 g4 WB
  refine (formatC z _ (by omega) (by omega) ((unhide HT).later wa.2.2.1)).mono ?_
  rintro e w4 ⟨rfl, hb2⟩
  have wb := wa.later hb2
  have hz4 : w1.heap.size < w4.heap.size := by have := hb2.size; simp at this; omega
  obtain ⟨-, ⟨g0, g1, g2, g3, g4⟩, -, -, -⟩ := id wb
  have WB := hide wb
  clear wa hb2 wb
  simp only [str] at g2 g3 g4 ⊢
  go_wp2_with fail
  rw [rounds_succ]
  go_wp2_with fail
  have wa : Words (w4.setCell ⟨w1.heap.size + 1, 2, none⟩ (str (dec z))) w.heap.size (w1.heap.size + 1) w (dec x) (dec y) (dec z) := (unhide WB).set2 (dec z)
  clear g0 g1 g2 g3 g4 WB
  have hl := text3_len x y z
  refine (joinC _ _ _ _ _ wa.2.1 (by unfold text3 at hl; omega)).mono ?_
  rintro e w5 ⟨rfl, hb2⟩
  have wb := wa.later hb2
  obtain ⟨⟨g0, g1, g2, g3⟩, -, g4, -, -⟩ := id wb
  have HB := hide g4
  have e3 : dec x ++ 44 :: (dec y ++ 44 :: dec z) = text3 x y z := rfl
  rw [e3]
  clear wa hb2 wb g4 hl
  simp only [str] at g2 g3 ⊢
  go_wp2_with fail
  refine bodyPost_ret (v := .agg #[.int .i64 0, str (text3 x y z)]) (by simp [results, Tryd.results40, go_sem, str, g2, g3]) rfl ⟨rfl, ?_⟩
  exact ((unhide HB).setCell (by simp) _).setCell (by simp) _

set_option maxHeartbeats 1000000 in
theorem implText_bad (v : Value) (zs : List Int) (w : World) (h : IsInts w v zs) (hf : vecFault zs ≠ 0) :
    Calls Tryd.prog 40 #[v] w fun e w' => e = .returned (.agg #[.int .i64 (vecFault zs), str []]) ∧ Below w.heap.size w w' := by
  have hne : (vecFault zs != 0) = true := by rw [bne_iff_ne]; exact hf
  go_enter Tryd.func40, Tryd.ntmps40
  go_wp2_with fail
  refine (vectorOf_bad v zs _ (h.later ((Below.refl _ _).alloc (Nat.le_refl _) _)) hf).mono ?_
  rintro e w1 ⟨rfl, hb⟩
  have hr : Row2 w1 w.heap.size (.int .i64 0) (str []) := Row2.new.later hb
  have hB1 : Below w.heap.size w w1 := ((Below.refl _ _).alloc (Nat.le_refl _) _).trans (hb.mono (by simp))
  obtain ⟨g0, g1, g2, g3⟩ := hr
  have HB := hide hB1
  clear hb hB1 h hf
  simp only [str] at g2 g3
  simp only [arr3]
  go_wp2_with fail
  refine bodyPost_ret (v := .agg #[.int .i64 (vecFault zs), str []]) (by simp [results, Tryd.results40, go_sem, str, g0, g2, g3]) rfl ⟨rfl, ?_⟩
  exact (((unhide HB).setCell (by simp) _).setCell (by simp) _).alloc (by simp; omega) _

/-- What VecText tells. -/
def vecText (zs : List Int) : Bytes := if vecFault zs = 0 then text3 (zs.getD 0 0) (zs.getD 1 0) (zs.getD 2 0) else []
theorem vecText_len (zs : List Int) : (vecText zs).length ≤ 17 := by
  unfold vecText
  split
  · exact text3_len _ _ _
  · simp

theorem implText (v : Value) (zs : List Int) (w : World) (h : IsInts w v zs) (ht : Tab w) :
    Calls Tryd.prog 40 #[v] w fun e w' => e = .returned (.agg #[.int .i64 (vecFault zs), str (vecText zs)]) ∧ Below w.heap.size w w' := by
  by_cases hf : vecFault zs = 0
  · match zs, (vecFault_zero hf).1 with
    | [x, y, z], _ =>
      have e : vecText [x, y, z] = text3 x y z := by simp [vecText, hf]
      rw [e, hf]
      exact implText_ok v x y z w h hf ht
  · have e : vecText zs = [] := by simp [vecText, hf]
    rw [e]
    exact implText_bad v zs w h hf

end Go.Proofs.YtgjjmbliahhhjaaDoor
