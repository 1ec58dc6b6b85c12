/-
  deedWords of the program: the words ahead of 'by', in new memory; nothing old is written.
  Condition: the table of powers of ten holds what the program's text lays there.
-/
import Derived.Test.YtgjjmbliahhhjaaDoorAppStr
import Derived.Test.YtgjjmbliahhhjaaDoorImplDeed
import Derived.Test.YtgjjmbliahhhjaaDoorList3
import Derived.Test.YtgjjmbliahhhjaaDoorWTextPlain
namespace Go.Proofs.YtgjjmbliahhhjaaDoor
open Go.RowKit

theorem decimalC (n : Int) (w : World) (h1 : -9999 ≤ n) (h2 : n ≤ 9999) (ht : Tab w) :
    Calls Tryd.prog 22 #[.int .i64 n] w fun e w' => e = .returned (str (dec n)) ∧ Below w.heap.size w w' := by
  have L := hide (formatC n w h1 h2 ht)
  clear ht
  go_enter Tryd.func22, Tryd.ntmps22
  go_wp2_with fail
  refine (unhide L).mono ?_
  rintro e w1 ⟨rfl, hb⟩
  have HB := hide hb
  clear hb L
  simp only [str]
  go_wp2_with fail
  go_ret
  exact ⟨rfl, unhide HB⟩

theorem methPut (n : Nat) (v : Value) (w : World) : (method (n + 1) 70 v "loop.example/g00357/impl.verb").run Tryd.prog w = .ok (62, v) w := by kernel_rfl
theorem methDrop (n : Nat) (v : Value) (w : World) : (method (n + 1) 64 v "loop.example/g00357/impl.verb").run Tryd.prog w = .ok (61, v) w := by kernel_rfl
theorem verbPut (x y z : Int) (w : World) : Calls Tryd.prog 62 #[.agg #[.int .i64 x, .int .i64 y, .int .i64 z]] w fun e w' => e = .returned (.string ⟨#[112, 117, 116]⟩) ∧ Below w.heap.size w w' := by
  go_enter Tryd.func62, Tryd.ntmps62
  go_wp2_with fail
  go_ret
  exact ⟨rfl, (Below.refl _ _).alloc (Nat.le_refl _) _⟩
theorem verbDrop (w : World) : Calls Tryd.prog 61 #[.agg #[]] w fun e w' => e = .returned (.string ⟨#[100, 114, 111, 112]⟩) ∧ Below w.heap.size w w' := by
  go_enter Tryd.func61, Tryd.ntmps61
  go_wp2_with fail
  go_ret
  exact ⟨rfl, (Below.refl _ _).alloc (Nat.le_refl _) _⟩
theorem assertPut2 (v : Value) (w : World) : (Instr.typeAssert (.iface 70 v) 46 70 true).run Tryd.prog w = .ok (.tuple #[v, .bool true]) w := by kernel_rfl
theorem assertDrop2 (v : Value) (w : World) : (Instr.typeAssert (.iface 64 v) 46 70 true).run Tryd.prog w = .ok (.tuple #[.agg #[.int .i64 0, .int .i64 0, .int .i64 0], .bool false]) w := by kernel_rfl
theorem fieldText (c : Int) (s : ByteArray) (w : World) : (Instr.field 27 (.agg #[.int .i64 c, .string s]) 1).run Tryd.prog w = .ok (.string s) w := by kernel_rfl

theorem listOfC (x y z : Int) (w : World) (hw : ∀ u ∈ [x, y, z], (Lit.int .i64 u).wf = true) :
    Calls Tryd.prog 41 #[.agg #[.int .i64 x, .int .i64 y, .int .i64 z]] w fun e w' => ∃ a c, e = .returned (.slice a 3 c) ∧ IsInts w' (.slice a 3 c) [x, y, z] ∧ Below w.heap.size w w' := by
  refine (listOf3 x y z w).mono ?_
  rintro e w' ⟨rfl, rfl⟩
  refine ⟨_, _, rfl, isInts_row (zs := [x, y, z]) hw (own_new3 (W := w.alloc (.cells #[.int .i64 x, .int .i64 y, .int .i64 z] 66)) (base := w.heap.size) (T := 2) (by simp) (by simp)), ((Below.refl _ _).alloc (Nat.le_refl _) _).alloc (by simp) _⟩

def ToldWords (w w' : World) (e : Ending) (cs : List Bytes) : Prop := ∃ g cap, e = .returned (.slice (some ⟨g, 0, none⟩) cs.length cap) ∧ w'.ownsRow w.heap.size 9 1 (.slice (some ⟨g, 0, none⟩) cs.length cap) cs.length (cs.map str) ∧ Below w.heap.size w w'

set_option maxRecDepth 10000 in
set_option maxHeartbeats 1000000 in
theorem words_drop (i : Int) (w : World) (hi : 1 ≤ i ∧ i ≤ 999) (ht : Tab w) :
    Calls Tryd.prog 21 #[dropV, .int .i64 i] w fun e w' => ToldWords w w' e [[100, 114, 111, 112], dec i] := by
  have L : Hid (∀ W, Tab W → Calls Tryd.prog 22 #[.int .i64 i] W fun e w' => e = .returned (str (dec i)) ∧ Below W.heap.size W w') := fun W h => decimalC i W (by omega) (by omega) h
  have a1 := assertDrop2
  have m1 := methDrop
  have HT := hide ht
  clear ht
  simp only [dropV, str] at *
  generalize dec i = di at *
  go_enter Tryd.func21, Tryd.ntmps21
  go_wp2_with fail
  refine (verbDrop _).mono ?_
  rintro e w1 ⟨rfl, hb1⟩
  have HB := hide hb1
  clear hb1
  go_wp2_with fail
  refine (unhide L _ ((unhide HT).later (unhide HB))).mono ?_
  rintro e w2 ⟨rfl, hb⟩
  replace HB := hide ((unhide HB).trans (hb.mono (unhide HB).size))
  clear hb
  go_wp2_with fail
  go_ret
  have hz := (unhide HB).size
  exact ⟨w2.heap.size, 2, rfl, World.ownsRow_lit w2 _ 2 hz (by unfold maxLen; omega) rfl, (unhide HB).alloc hz _⟩

set_option maxRecDepth 10000 in
set_option maxHeartbeats 1000000 in
theorem words_put (i x y z : Int) (w : World) (hi : 1 ≤ i ∧ i ≤ 999) (hv : vecFault [x, y, z] = 0) (ht : Tab w) :
    Calls Tryd.prog 21 #[putV x y z, .int .i64 i] w fun e w' => ToldWords w w' e [[112, 117, 116], dec i, vecText [x, y, z]] := by
  have L : Hid (∀ W, Tab W → Calls Tryd.prog 22 #[.int .i64 i] W fun e w' => e = .returned (str (dec i)) ∧ Below W.heap.size W w') := fun W h => decimalC i W (by omega) (by omega) h
  have LV : Hid (∀ W v, Tab W → IsInts W v [x, y, z] → Calls Tryd.prog 40 #[v] W fun e w' => e = .returned (.agg #[.int .i64 0, str (vecText [x, y, z])]) ∧ Below W.heap.size W w') := fun W v h hi => by
    have := implText v [x, y, z] W hi h
    rw [hv] at this
    exact this
  have HW : Hid (∀ u ∈ [x, y, z], (Lit.int .i64 u).wf = true) := by
    obtain ⟨b1, b2, b3⟩ := fault3 hv
    intro u hu
    simp at hu
    rcases hu with rfl | rfl | rfl <;> exact wf_of_bd (by omega)
  have a1 := assertPut2
  have m1 := methPut
  have f1 := fieldText
  have HT := hide ht
  clear ht hv
  simp only [putV, str] at *
  generalize hvt : vecText [x, y, z] = vt at *
  generalize dec i = di at *
  clear hvt
  go_enter Tryd.func21, Tryd.ntmps21
  go_wp2_with fail
  refine (verbPut x y z _).mono ?_
  rintro e w1 ⟨rfl, hb1⟩
  have HB := hide hb1
  clear hb1
  go_wp2_with fail
  refine (unhide L _ ((unhide HT).later (unhide HB))).mono ?_
  rintro e w2 ⟨rfl, hb⟩
  replace HB := hide ((unhide HB).trans (hb.mono (unhide HB).size))
  have hz2 := (unhide HB).size
  clear hb
  have O : (w2.alloc (.cells #[.string ⟨#[112, 117, 116]⟩, .string ⟨di.toArray⟩] 9)).ownsRow w2.heap.size 9 1 (.slice (some ⟨w2.heap.size, 0, none⟩) 2 2) 2 [.string ⟨#[112, 117, 116]⟩, .string ⟨di.toArray⟩] := World.ownsRow_lit w2 _ 2 (Nat.le_refl _) (by unfold maxLen; omega) rfl
  have nb : Below w2.heap.size w2 ((w2.alloc (.cells #[.string ⟨#[112, 117, 116]⟩, .string ⟨di.toArray⟩] 9)).alloc (.cells #[.int .i64 x, .int .i64 y, .int .i64 z] 70)) := ((Below.refl _ _).alloc (Nat.le_refl _) _).alloc (by simp) _
  have O2 := own_below O ((Below.refl (w2.alloc (.cells #[.string ⟨#[112, 117, 116]⟩, .string ⟨di.toArray⟩] 9)).heap.size _).alloc (Nat.le_refl _) (.cells #[.int .i64 x, .int .i64 y, .int .i64 z] 70))
  have hz3 : w2.heap.size < ((w2.alloc (.cells #[.string ⟨#[112, 117, 116]⟩, .string ⟨di.toArray⟩] 9)).alloc (.cells #[.int .i64 x, .int .i64 y, .int .i64 z] 70)).heap.size := by simp; omega
  clear O
  go_wp2_with fail
  generalize (w2.alloc (.cells #[.string ⟨#[112, 117, 116]⟩, .string ⟨di.toArray⟩] 9)).alloc (.cells #[.int .i64 x, .int .i64 y, .int .i64 z] 70) = W3 at *
  refine (listOfC x y z _ (unhide HW)).mono ?_
  rintro e w4 ⟨a4, c4, rfl, I4, hb⟩
  replace O2 := own_below O2 hb
  replace HB := hide (((unhide HB).trans (nb.mono hz2)).trans (hb.mono (by omega)))
  have hz4 := hb.size
  clear hb nb
  go_wp2_with fail
  refine (unhide LV _ _ ((unhide HT).later (unhide HB)) I4).mono ?_
  rintro e w5 ⟨rfl, hb⟩
  replace O2 := own_below O2 hb
  replace HB := hide ((unhide HB).trans (hb.mono (by omega)))
  have hz5 := hb.size
  clear hb I4
  go_wp2_with (at_builtin; refine wpList_append_strs O2 [⟨vt.toArray⟩] rfl _ _ rfl rfl 1 rfl rfl (by omega) (by omega) (by omega) ?_)
  rintro g6 d6 w6 O3 - hb6 hl6 hz6
  replace HB := hide ((unhide HB).trans (hb6.mono hz2))
  clear O2 hb6
  have HO := hide O3
  clear O3
  go_wp2_with fail
  go_ret
  exact ⟨g6, d6, rfl, own_mono hz2 (unhide HO), unhide HB⟩

end Go.Proofs.YtgjjmbliahhhjaaDoor
