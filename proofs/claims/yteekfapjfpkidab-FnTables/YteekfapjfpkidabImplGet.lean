/-
  The program's GetItem tells an item's vector in new memory, or what is wrong; nothing old is written.
  No condition.
-/
import Derived.Test.YteekfapjfpkidabImplFrom
import Derived.Test.YteekfapjfpkidabTabGround
import Derived.Test.YteekfapjfpkidabListC
namespace Go.Proofs.Yteekfapjfpkidab
open Go.RowKit

set_option maxRecDepth 10000 in
set_option maxHeartbeats 1000000 in
theorem implGet (v : Value) (xs : List DItem) (id : Int) (w : World) (h : (Lay.sl Lay.tItem).Reads w [v] xs) (hw : (Lit.int .i64 id).wf = true) :
    Calls Try.prog 32 #[v, .int .i64 id] w fun e w' => ∃ cs, e = .returned (.agg cs.toArray) ∧ Lay.tIntsResult.OwnIn w' cs (getI xs id) w.heap.size w'.heap.size ∧ Below w.heap.size w w' := by
  have HB0 : Below w.heap.size w (w.alloc (.cells #[.int .i64 0, .slice none 0 0] 57)) := (Below.refl _ _).alloc (Nat.le_refl _) _
  have bR : Box w.heap.size #[.int .i64 0, .slice none 0 0] 57 (w.alloc (.cells #[.int .i64 0, .slice none 0 0] 57)) w.heap.size := newBox (Nat.le_refl _)
  have H := hide (h.later HB0)
  obtain ⟨ao, cap, rfl⟩ := open_sl h
  clear h
  go_enter Try.func32, Try.ntmps32
  go_wp2_with fail
  generalize w.alloc (.cells #[.int .i64 0, .slice none 0 0] 57) = W0 at *
  by_cases hf : tableFault xs = 0
  · refine (tableFrom_ok _ xs W0 (unhide H) hf).mono ?_
    rintro e w1 ⟨⟨q, rfl, hq, hT⟩, hb⟩
    replace bR := bR.keep hb
    replace HB0 := HB0.trans (hb.mono HB0.size)
    have hz0 := HB0.size
    obtain ⟨-, -, hris⟩ := tableFault_zero hf
    have z0 : w1.cell? ⟨w.heap.size, 0, none⟩ = some (.int .i64 0) := bR.at 0 _ rfl
    have z1 : w1.cell? ⟨w.heap.size, 1, none⟩ = some (.slice none 0 0) := bR.at 1 _ rfl
    have f0 := bR.soft 0
    have f1 := bR.soft 1
    have l0 := bR.lt
    have HB := hide HB0
    have HT := hide hT
    have HR := hide bR
    clear hb HB0 hT bR H
    go_wp2_with fail
    refine (implId id _).mono ?_
    rintro e w1 ⟨rfl, rfl⟩
    rw [show (decide (1 ≤ id) && decide (id ≤ 999)) = idB id from rfl]
    cases hid : idB id with
    | false =>
      have HG : Hid (getI xs id = ⟨3, []⟩) := by
        show getI xs id = ⟨3, []⟩
        rw [getI, if_pos hf, hid, if_neg (by simp)]
      clear hid hf hris
      go_wp2_with fail
      refine bodyPost_ret (v := .agg #[.int .i64 3, .slice none 0 0]) (by simp [results, Try.results32, go_sem, z0, z1]) rfl ?_
      rw [unhide HG]
      exact ⟨[.int .i64 3, .slice none 0 0], rfl, own_codeInts (by decide), ((unhide HB).setCell (by simp) _).setCell (by simp) _⟩
    | true =>
      cases hfd : xs.find? (fun x => x.id == id) with
      | none =>
        have HG : Hid (getI xs id = ⟨4, []⟩) := by
          show getI xs id = ⟨4, []⟩
          rw [getI, if_pos hf, hid, if_pos rfl, hfd]
          rfl
        obtain ⟨p, q2, r, hrun⟩ := (unhide HT).miss hw (find_none hfd)
        simp only [arr3] at hrun
        have HB1 : Hid (∀ u v o, Below w.heap.size w (((w1.setCell ⟨w.heap.size, 0, none⟩ u).setCell ⟨w.heap.size, 1, none⟩ v).alloc o)) := fun u v o => (((unhide HB).setCell (by simp) u).setCell (by simp) v).alloc (by simpa using (unhide HB).size) o
        clear hid hf hris hfd
        have y0 : ∀ u v o, (((w1.setCell ⟨w.heap.size, 0, none⟩ u).setCell ⟨w.heap.size, 1, none⟩ v).alloc o).cell? ⟨w.heap.size, 0, none⟩ = some u := fun u v o => ((((unhide HR).set 0 u).set 1 v).grow o).at 0 u rfl
        have y1 : ∀ u v o, (((w1.setCell ⟨w.heap.size, 0, none⟩ u).setCell ⟨w.heap.size, 1, none⟩ v).alloc o).cell? ⟨w.heap.size, 1, none⟩ = some v := fun u v o => ((((unhide HR).set 0 u).set 1 v).grow o).at 1 v rfl
        go_wp2_with fail
        refine bodyPost_ret (v := .agg #[.int .i64 4, .slice none 0 0]) (by simp [results, Try.results32, go_sem, y0, y1]) rfl ?_
        rw [unhide HG]
        exact ⟨[.int .i64 4, .slice none 0 0], rfl, own_codeInts (by decide), unhide HB1 _ _ _⟩
      | some x =>
        obtain ⟨hx, hxi⟩ := find_at hfd
        obtain ⟨p, q2, r, hv, hrun, -⟩ := (unhide HT).look hris hw hx hxi
        have HG : Hid (getI xs id = ⟨0, [p, q2, r]⟩) := by
          show getI xs id = ⟨0, [p, q2, r]⟩
          rw [getI, if_pos hf, hid, if_pos rfl, hfd, ← hv]
          rfl
        have hvf := ((tableFault_zero hf).2.1 x hx).2
        rw [hv] at hvf
        obtain ⟨⟨b1, b2⟩, ⟨b3, b4⟩, b5, b6⟩ := fault3 hvf
        have HWF : Hid (∀ z ∈ [p, q2, r], (Lit.int .i64 z).wf = true) := by
          show ∀ z ∈ [p, q2, r], (Lit.int .i64 z).wf = true
          intro z hz
          simp only [List.mem_cons, List.not_mem_nil, or_false] at hz
          rcases hz with rfl | rfl | rfl <;> exact wf_of_bd (by omega)
        simp only [arr3] at hrun
        clear hid hf hris hfd hvf b1 b2 b3 b4 b5 b6 hx hxi hv
        have nb : Below w1.heap.size w1 (w1.alloc (.cells #[.int .i64 p, .int .i64 q2, .int .i64 r] 109)) := (Below.refl _ _).alloc (Nat.le_refl _) _
        have L := listOwn p q2 r (w1.alloc (.cells #[.int .i64 p, .int .i64 q2, .int .i64 r] 109)) (unhide HWF)
        simp only [arr3] at L
        have HL := hide L
        have HN := hide nb
        clear L nb
        go_wp2_with fail
        clear z0 z1 f0 f1 l0
        refine (unhide HL).mono ?_
        rintro e w2 ⟨g, rfl, hO, hb⟩
        have nb := unhide HN
        have bR := ((unhide HR).keep nb).keep hb
        have z0 : w2.cell? ⟨w.heap.size, 0, none⟩ = some (.int .i64 0) := bR.at 0 _ rfl
        have z1 : w2.cell? ⟨w.heap.size, 1, none⟩ = some (.slice none 0 0) := bR.at 1 _ rfl
        have f0 := bR.soft 0
        have f1 := bR.soft 1
        have l0 := bR.lt
        have HB2 := hide (((unhide HB).trans (nb.mono (unhide HB).size)).trans (hb.mono (by have := (unhide HB).size; simp; omega)))
        have hlo : w1.heap.size ≤ (w1.alloc (.cells #[.int .i64 p, .int .i64 q2, .int .i64 r] 109)).heap.size := nb.size
        have HO := hide (hO.mono (lo' := w.heap.size + 1) (by have := (unhide HR).lt; omega) (Nat.le_refl _))
        clear hO hb nb bR HN HL hlo
        go_wp2_with fail
        refine bodyPost_ret (v := .agg #[.int .i64 0, .slice (some ⟨g, 0, none⟩) 3 3]) (by simp [results, Try.results32, go_sem, z0, z1]) rfl ?_
        rw [unhide HG]
        have hE : Ext (fun c => c = w.heap.size) w2 ((w2.setCell ⟨w.heap.size, 0, none⟩ (.int .i64 0)).setCell ⟨w.heap.size, 1, none⟩ (.slice (some ⟨g, 0, none⟩) 3 3)) := ((Ext.refl (fun c => c = w.heap.size) _).setCell ⟨w.heap.size, 0, none⟩ _ rfl).setCell ⟨w.heap.size, 1, none⟩ _ rfl
        refine ⟨[.int .i64 0, .slice (some ⟨g, 0, none⟩) 3 3], rfl, own_ints (by decide) ?_, ((unhide HB2).setCell (by simp) _).setCell (by simp) _⟩
        exact ((unhide HO).ext hE (fun c h1 _ h3 => by omega)).mono (by omega) (by simp)
  · have L := hide (tableFrom_bad _ xs W0 (unhide H) hf)
    have HG : Hid (getI xs id = ⟨tableFault xs, []⟩) := by
      show getI xs id = ⟨tableFault xs, []⟩
      rw [getI, if_neg hf]
    have hd : (tableFault xs != 0) = true := by simpa using hf
    clear H
    refine (unhide L).mono ?_
    rintro e w1 ⟨rfl, hb⟩
    replace bR := bR.keep hb
    have z0 : w1.cell? ⟨w.heap.size, 0, none⟩ = some (.int .i64 0) := bR.at 0 _ rfl
    have z1 : w1.cell? ⟨w.heap.size, 1, none⟩ = some (.slice none 0 0) := bR.at 1 _ rfl
    have f0 := bR.soft 0
    have f1 := bR.soft 1
    have l0 := bR.lt
    have HB := hide (HB0.trans (hb.mono HB0.size))
    clear hb HB0 bR L hf
    go_wp2_with fail
    refine bodyPost_ret (v := .agg #[.int .i64 (tableFault xs), .slice none 0 0]) (by simp [results, Try.results32, go_sem, z0, z1]) rfl ?_
    rw [unhide HG]
    exact ⟨[.int .i64 (tableFault xs), .slice none 0 0], rfl, own_codeInts (code_wf xs), ((unhide HB).setCell (by simp) _).setCell (by simp) _⟩

end Go.Proofs.Yteekfapjfpkidab
