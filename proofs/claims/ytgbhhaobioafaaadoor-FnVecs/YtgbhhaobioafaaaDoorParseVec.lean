/-
  ParseVec of the model and of the program: the vector whose text it is, or the code 5.
  Condition: at most 1048576 bytes.
-/
import Derived.Test.YtgbhhaobioafaaaDoorParse
import Derived.Test.YtgbhhaobioafaaaDoorReadV
namespace Go.Proofs.YtgbhhaobioafaaaDoor
open Go.RowKit

def pCode (l : Bytes) : Int := match PP 3 (0, 0, 0) l with | none => 5 | some _ => 0
def pList (l : Bytes) : List Int := match PP 3 (0, 0, 0) l with | none => [] | some t => [t.1, t.2.1, t.2.2]

theorem pList_len (l : Bytes) : (pList l).length ≤ 3 := by unfold pList; split <;> simp
theorem pList_wf (l : Bytes) : ∀ z ∈ pList l, (Lit.int .i64 z).wf = true := by
  intro m hm
  unfold pList at hm
  split at hm
  · simp at hm
  · next t h =>
    obtain ⟨x, y, z⟩ := t
    obtain ⟨_, hx, hy, hz⟩ := PP_some h
    simp at hm
    rcases hm with rfl | rfl | rfl <;> exact wf_of_bd (by omega)

/-- What both leave. -/
def VecPost (l : Bytes) (w : World) (e : Ending) (w' : World) : Prop :=
  ∃ r, e = .returned (intsRes (pCode l) r) ∧ w'.ownsRow w.heap.size 2 1 r (pList l).length ((pList l).map (Value.int .i64)) ∧ Below w.heap.size w w'

set_option maxHeartbeats 400000 in
theorem modelParseVec (s : ByteArray) (w : World) (hs : s.size ≤ 1048576) :
    Calls Tryd.prog 8 #[.string s] w (VecPost s.data.toList w) := by
  have hq := modelP_eq s.data.toList
  have HQ := hide hq
  clear hq
  go_enter Tryd.func8, Tryd.ntmps8
  go_wp2_with fail
  refine (parseC s _ hs).mono ?_
  rintro e w1 ⟨v, b, rfl, hcase, hb⟩
  have hz : w.heap.size < w1.heap.size := by have := hb.size; simp at this; omega
  have p0 : w1.cell? ⟨w.heap.size, 0, none⟩ = some (.int .i64 0) := (hb.cell (p := ⟨w.heap.size, 0, none⟩) (by simp)).trans (by simp [go_sem])
  have p1 : w1.cell? ⟨w.heap.size, 1, none⟩ = some (.slice none 0 0) := (hb.cell (p := ⟨w.heap.size, 1, none⟩) (by simp)).trans (by simp [go_sem])
  have p2 : ∀ o, w1.frozen? ⟨w.heap.size, o, none⟩ = false := fun o => (hb.frozen (p := ⟨w.heap.size, o, none⟩) (by simp)).trans (by simp [go_sem])
  have HB := hide (((Below.refl w.heap.size w).alloc (Nat.le_refl _) _).trans (hb.mono (by simp)))
  clear hb
  rcases hcase with ⟨rfl, ms, hm, hwf, hown⟩ | ⟨rfl, hm⟩
  · obtain ⟨ao, cap, rfl⟩ := own_shape hown
    have hPP : pCode s.data.toList = 0 ∧ pList s.data.toList = ms := by
      rw [unhide HQ] at hm
      unfold pCode pList
      cases h : PP 3 (0, 0, 0) s.data.toList with
      | none => rw [h] at hm; simp at hm
      | some t => rw [h] at hm; simp at hm; exact ⟨rfl, hm⟩
    have hown' := own_mono (b' := w.heap.size + 1) (by simp) hown
    have HO := hide hown'
    have HP := hide hPP
    clear hm hown hown' hwf hPP
    go_wp2_with fail
    refine bodyPost_ret (v := intsRes 0 (.slice ao ms.length cap)) (by simp [results, Tryd.results8, go_sem, intsRes, p0, p1]) rfl ⟨.slice ao ms.length cap, by rw [(unhide HP).1], ?_, ?_⟩
    · rw [(unhide HP).2]
      exact ownsRow_setCell_below (ownsRow_setCell_below (unhide HO) (by simp) _) (by simp) _ |> own_mono (by omega)
    · exact ((unhide HB).setCell (by simp) _).setCell (by simp) _
  · have hPP : pCode s.data.toList = 5 ∧ pList s.data.toList = [] := by
      rw [unhide HQ] at hm
      unfold pCode pList
      cases h : PP 3 (0, 0, 0) s.data.toList with
      | none => exact ⟨rfl, rfl⟩
      | some t => rw [h] at hm; simp at hm
    have HP := hide hPP
    clear hm hPP
    go_wp2_with fail
    refine bodyPost_ret (v := intsRes 5 (.slice none 0 0)) (by simp [results, Tryd.results8, go_sem, intsRes, p0, p1]) rfl ⟨.slice none 0 0, by rw [(unhide HP).1], ?_, ?_⟩
    · rw [(unhide HP).2]
      exact World.ownsRow_nil _ _ _ _
    · exact ((unhide HB).setCell (by simp) _).setCell (by simp) _

set_option maxHeartbeats 1000000 in
theorem implParseVec (s : ByteArray) (w : World) (hs : s.size ≤ 1048576) :
    Calls Tryd.prog 6 #[.string s] w (VecPost s.data.toList w) := by
  have hrest : rest s 0 = s.data.toList := rfl
  go_enter Tryd.func6, Tryd.ntmps6
  go_wp2_with fail
  refine (readVector_c s _ hs).mono ?_
  rw [hrest]
  rintro e w1 ⟨rfl, hb⟩
  have hz : w.heap.size < w1.heap.size := by have := hb.size; simp at this; omega
  have p0 : w1.cell? ⟨w.heap.size, 0, none⟩ = some (.int .i64 0) := (hb.cell (p := ⟨w.heap.size, 0, none⟩) (by simp)).trans (by simp [go_sem])
  have p1 : w1.cell? ⟨w.heap.size, 1, none⟩ = some (.slice none 0 0) := (hb.cell (p := ⟨w.heap.size, 1, none⟩) (by simp)).trans (by simp [go_sem])
  have p2 : ∀ o, w1.frozen? ⟨w.heap.size, o, none⟩ = false := fun o => (hb.frozen (p := ⟨w.heap.size, o, none⟩) (by simp)).trans (by simp [go_sem])
  have HB := hide (((Below.refl w.heap.size w).alloc (Nat.le_refl _) _).trans (hb.mono (by simp)))
  clear hb hrest
  cases h : PP 3 (0, 0, 0) s.data.toList with
  | none =>
    have HP : Hid (pCode s.data.toList = 5 ∧ pList s.data.toList = []) := by
      show pCode s.data.toList = 5 ∧ pList s.data.toList = []
      unfold pCode pList
      rw [h]
      exact ⟨rfl, rfl⟩
    clear h
    simp only [triRes, arr3]
    go_wp2_with fail
    refine bodyPost_ret (v := intsRes 5 (.slice none 0 0)) (by simp [results, Tryd.results6, go_sem, intsRes, p0, p1, hz]) rfl ⟨.slice none 0 0, by rw [(unhide HP).1], ?_, ?_⟩
    · rw [(unhide HP).2]
      exact World.ownsRow_nil _ _ _ _
    · exact (((unhide HB).setCell (by simp) _).setCell (by simp) _).alloc (by simp; omega) _
  | some t =>
    obtain ⟨x, y, z⟩ := t
    have HP : Hid (pCode s.data.toList = 0 ∧ pList s.data.toList = [x, y, z]) := by
      show pCode s.data.toList = 0 ∧ pList s.data.toList = [x, y, z]
      unfold pCode pList
      rw [h]
      exact ⟨rfl, rfl⟩
    clear h
    have hz1 : w.heap.size < w1.heap.size + 1 := by omega
    have hz2 : w.heap.size < w1.heap.size + 1 + 1 := by omega
    simp only [triRes, arr3]
    go_wp2_with fail
    have e := listOf3 x y z (w1.alloc (.cells #[.int .i64 x, .int .i64 y, .int .i64 z] 41))
    simp only [arr3] at e
    refine e.mono ?_
    clear e
    rintro e w2 ⟨rfl, rfl⟩
    go_wp2_with fail
    refine bodyPost_ret (v := intsRes 0 (.slice (some ⟨w1.heap.size + 1 + 1, 0, none⟩) 3 3)) (by simp [results, Tryd.results6, go_sem, intsRes, p0, p1, hz, hz1, hz2]) rfl ⟨.slice (some ⟨w1.heap.size + 1 + 1, 0, none⟩) 3 3, by rw [(unhide HP).1], ?_, ?_⟩
    · rw [(unhide HP).2]
      exact own_new3 (by simp; omega) (by simp)
    · exact (((((unhide HB).setCell (by simp) _).setCell (by simp) _).alloc (by simp; omega) _).alloc (by simp; omega) _).alloc (by simp; omega) _

end Go.Proofs.YtgbhhaobioafaaaDoor
