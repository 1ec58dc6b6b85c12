/-
  CostOf of the program; nothing old is written.
  No condition.
-/
import Derived.Test.YtjofcmdlcoganaaImplAsk6
import Derived.Test.YtjofcmdlcoganaaImplCost6
namespace Go.Proofs.Ytjofcmdlcoganaa
open Go.RowKit

set_option maxRecDepth 10000 in
set_option maxHeartbeats 1000000 in
theorem implCostOf (v : Value) (cs : List DCenter) (vx : Value) (xs : List DItem) (w : World) (hcs : (Lay.sl Lay.tCenter).Reads w [v] cs) (h : (Lay.sl Lay.tItem).Reads w [vx] xs) :
    Calls Try.prog 14 #[v, vx] w fun e w' => ∃ cs', e = .returned (.agg cs'.toArray) ∧ Lay.tIntResult.OwnIn w' cs' (costR cs xs) w.heap.size w'.heap.size ∧ Below w.heap.size w w' := by
  have HB0 : Below w.heap.size w (w.alloc (.cells #[.int .i64 0, .int .i64 0] 33)) := (Below.refl _ _).alloc (Nat.le_refl _) _
  have bR : Box w.heap.size #[.int .i64 0, .int .i64 0] 33 (w.alloc (.cells #[.int .i64 0, .int .i64 0] 33)) w.heap.size := newBox (Nat.le_refl _)
  have hc1 := hcs.later HB0
  have hx1 := h.later HB0
  obtain ⟨ao, cap, rfl⟩ := open_sl hcs
  obtain ⟨ao2, cap2, rfl⟩ := open_sl h
  clear hcs h
  go_enter Try.func14, Try.ntmps14
  go_wp2_with fail
  generalize w.alloc (.cells #[.int .i64 0, .int .i64 0] 33) = W0 at *
  refine (implAsk6 _ cs _ xs W0 hc1 hx1).mono ?_
  rintro e w1 ⟨rfl, hb⟩
  have HC := hide (hc1.later hb)
  have HX := hide (hx1.later hb)
  replace bR := bR.keep hb
  replace HB0 := HB0.trans (hb.mono HB0.size)
  have z0 : w1.cell? ⟨w.heap.size, 0, none⟩ = some (.int .i64 0) := bR.at 0 _ rfl
  have z1 : w1.cell? ⟨w.heap.size, 1, none⟩ = some (.int .i64 0) := bR.at 1 _ rfl
  have f0 := bR.soft 0
  have f1 := bR.soft 1
  have l0 := bR.lt
  have HB := hide HB0
  have HR := hide bR
  clear hb HB0 bR hc1 hx1
  by_cases hf : askFault cs xs = 0
  · have HG : Hid (costR cs xs = ⟨0, cost cs xs⟩) := if_pos hf
    obtain ⟨hfc, hft⟩ := askFault_zero hf
    rw [hf]
    have L := hide (implCost _ cs _ xs w1 (unhide HC) (unhide HX) hfc hft)
    have hbd := costK_bd hfc (fun x hm => ((tableFault_zero hft).2.1 x hm).2) xs.length (Nat.le_refl _)
    have hl := (tableFault_zero hft).1
    have HW : Hid ((Lit.int .i64 (cost cs xs)).wf = true) := wf_of_bd (by unfold cost; omega)
    clear hf hfc hft HC HX z0 z1 f0 f1 l0 hbd hl
    go_wp2_with fail
    refine (unhide L).mono ?_
    rintro e w2 ⟨rfl, hb⟩
    have bR := (unhide HR).keep hb
    have z0 : w2.cell? ⟨w.heap.size, 0, none⟩ = some (.int .i64 0) := bR.at 0 _ rfl
    have z1 : w2.cell? ⟨w.heap.size, 1, none⟩ = some (.int .i64 0) := bR.at 1 _ rfl
    have f0 := bR.soft 0
    have f1 := bR.soft 1
    have l0 := bR.lt
    have HB9 := hide ((unhide HB).trans (hb.mono (unhide HB).size))
    clear hb bR HB HR L
    generalize cost cs xs = c9 at *
    go_wp2_with fail
    refine bodyPost_ret (v := .agg #[.int .i64 0, .int .i64 c9]) (by simp [results, Try.results14, go_sem, z0, z1]) rfl ?_
    rw [unhide HG]
    exact ⟨[.int .i64 0, .int .i64 c9], rfl, own_intR (by decide) (unhide HW), ((unhide HB9).setCell (by simp) _).setCell (by simp) _⟩
  · have HG : Hid (costR cs xs = ⟨askFault cs xs, 0⟩) := if_neg hf
    have hd : (askFault cs xs != 0) = true := by simpa using hf
    clear hf HC HX
    go_wp2_with fail
    refine bodyPost_ret (v := .agg #[.int .i64 (askFault cs xs), .int .i64 0]) (by simp [results, Try.results14, go_sem, z0, z1]) rfl ?_
    rw [unhide HG]
    exact ⟨[.int .i64 (askFault cs xs), .int .i64 0], rfl, own_intR (askFault_wf cs xs) (by decide), ((unhide HB).setCell (by simp) _).setCell (by simp) _⟩

end Go.Proofs.Ytjofcmdlcoganaa
