/-
  The model's AddHit, MergeHits and RankOf: code and hits in plain words; the hits lie in new memory; nothing old is written.
  No condition.
-/
import Derived.Test.YtplhhdnmhcnhgaaHitOps
namespace Go.Proofs.Ytplhhdnmhcnhgaa
open Go.RowKit

/-- What AddHit tells. -/
def Told (w w' : World) (e : Ending) (c : Int) (l : List (Int × Int)) : Prop := ∃ r, e = .returned (intsRes c r) ∧ w'.ownsRow w.heap.size 31 2 r l.length (cells2 l) ∧ Below w.heap.size w w'
theorem told_nil {w w' : World} {c : Int} (h : Below w.heap.size w w') : Told w w' (.returned (intsRes c (.slice none 0 0))) c [] := ⟨_, rfl, World.ownsRow_nil _ _ _ _, h⟩

set_option maxRecDepth 100000 in
set_option maxHeartbeats 1000000 in
theorem modelAdd (v : Value) (hs : List (Int × Int)) (x y k : Int) (w : World) (h : IsHits w v hs) (hwh : Wf2 (x, y)) :
    Calls Try.prog 33 #[v, .agg #[.int .i64 x, .int .i64 y], .int .i64 k] w fun e w' => Told w w' e (addCode hs (x, y) k) (addList hs (x, y) k) := by
  have HH := hide h
  have B0 : Below w.heap.size w (w.alloc (.cells #[.int .i64 x, .int .i64 y] 31)) := (Below.refl _ _).alloc (Nat.le_refl _) _
  obtain ⟨q0, q1⟩ := new_cells (w := w) (T := 31) (x := .int .i64 x) (y := .int .i64 y)
  clear h
  go_enter Try.func33, Try.ntmps33
  go_wp2_with fail
  generalize hwa : w.alloc (.cells #[.int .i64 x, .int .i64 y] 31) = wa at *
  have hsa : wa.heap.size = w.heap.size + 1 := by rw [← hwa]; simp
  have bb : Below w.heap.size w (wa.alloc (.cells #[.int .i64 0, .slice none 0 0] 28)) := B0.alloc (by omega) _
  refine (l2K k _).mono ?_
  rintro e w1 ⟨rfl, rfl⟩
  have RV : Hid (∀ W, Below (wa.alloc (.cells #[.int .i64 0, .slice none 0 0] 28)).heap.size (wa.alloc (.cells #[.int .i64 0, .slice none 0 0] 28)) W → W.cell? ⟨w.heap.size + 1, 0, none⟩ = some (.int .i64 0) ∧ W.cell? ⟨w.heap.size + 1, 1, none⟩ = some (.slice none 0 0) ∧ (∀ o, W.frozen? ⟨w.heap.size + 1, o, none⟩ = false) ∧ w.heap.size + 1 < W.heap.size) := by
    intro W hW
    have := resVar hW
    rwa [hsa] at this
  have QV : Hid (∀ W, Below (wa.alloc (.cells #[.int .i64 0, .slice none 0 0] 28)).heap.size (wa.alloc (.cells #[.int .i64 0, .slice none 0 0] 28)) W → W.cell? ⟨w.heap.size, 0, none⟩ = some (.int .i64 x) ∧ W.cell? ⟨w.heap.size, 1, none⟩ = some (.int .i64 y)) := by
    intro W hW
    have n1 := World.grownBy_alloc wa (.cells #[.int .i64 0, .slice none 0 0] 28) none
    exact ⟨cell_keep hW (n1.cell q0 (by simp)), cell_keep hW (n1.cell q1 (by simp))⟩
  have HBB := hide bb
  clear q0 q1 B0 bb hwa
  generalize hwb : wa.alloc (.cells #[.int .i64 0, .slice none 0 0] 28) = wb at *
  clear hwb
  cases hk : kB k with
  | false =>
    have e0 : addCode hs (x, y) k = 3 := by simp [addCode, hk]
    have e1 : addList hs (x, y) k = [] := by simp [addList, e0]
    have hk' : (decide ((0 : Int) ≤ k) && decide (k ≤ 20)) = false := hk
    rw [hk']
    have E0 := hide e0
    have E1 := hide e1
    obtain ⟨z0, z1, z2, z3⟩ := unhide RV wb (Below.refl _ _)
    clear hk hk' e0 e1 RV QV
    go_wp2_with fail
    refine bodyPost_ret (v := intsRes 3 (.slice none 0 0)) (by simp [results, Try.results33, go_sem, intsRes, z0, z1]) rfl ?_
    rw [unhide E0, unhide E1]
    exact told_nil (((unhide HBB).setCell (by simp) _).setCell (by simp) _)
  | true =>
    have hk' : (decide ((0 : Int) ≤ k) && decide (k ≤ 20)) = true := hk
    rw [hk']
    have HK := hide hk
    clear hk hk'
    go_wp2_with fail
    refine (l2Fault v hs _ ((unhide HH).later (unhide HBB))).mono ?_
    rintro e w2 ⟨rfl, hb2⟩
    have HB2 := hide hb2
    have HBW2 := hide (below_keep2 (unhide HBB) hb2)
    clear hb2
    by_cases hf : hitsFault hs = 0
    · rw [hf]
      have HF := hide hf
      obtain ⟨p0, p1⟩ := unhide QV w2 (unhide HB2)
      clear hf
      go_wp2_with fail
      refine (l2One x y _).mono ?_
      rintro e w3 ⟨rfl, hb3⟩
      have HB3 := hide (below_keep2 (unhide HB2) hb3)
      have HBW3 := hide (below_keep2 (unhide HBW2) hb3)
      clear hb3 p0 p1
      cases ho : oneB (x, y) with
      | false =>
        have e0 : addCode hs (x, y) k = 3 := by simp [addCode, unhide HK, unhide HF, ho]
        have e1 : addList hs (x, y) k = [] := by simp [addList, e0]
        have E0 := hide e0
        have E1 := hide e1
        obtain ⟨z0, z1, z2, z3⟩ := unhide RV w3 (unhide HB3)
        clear ho e0 e1 RV QV
        go_wp2_with fail
        refine bodyPost_ret (v := intsRes 3 (.slice none 0 0)) (by simp [results, Try.results33, go_sem, intsRes, z0, z1]) rfl ?_
        rw [unhide E0, unhide E1]
        exact told_nil (((unhide HBW3).setCell (by simp) _).setCell (by simp) _)
      | true =>
        have hkk : 0 ≤ k ∧ k ≤ 20 := by simpa [kB] using unhide HK
        obtain ⟨m, rfl⟩ : ∃ m : Nat, k = m := ⟨k.toNat, by omega⟩
        have e0 : addCode hs (x, y) m = 0 := by simp [addCode, unhide HK, unhide HF, ho]
        have e1 : addList hs (x, y) m = (ins hs (x, y)).take m := by simp [addList, e0]
        have E0 := hide e0
        have E1 := hide e1
        obtain ⟨p0, p1⟩ := unhide QV w3 (unhide HB3)
        have hl20 := (hitsFault_zero (unhide HF)).1
        have L := l2Add v hs x y m w3 ((unhide HH).later (unhide HBW3)) (by omega) hwh
        clear ho e0 e1 hkk hl20
        go_wp2_with fail
        refine L.mono ?_
        rintro e w4 ⟨g, cp, rfl, hown, hb4⟩
        have hb5 := below_keep2 (unhide HB3) hb4
        obtain ⟨z0, z1, z2, z3⟩ := unhide RV w4 hb5
        have HBW4 := hide (below_keep2 (unhide HBW3) hb4)
        have hsz := (unhide RV w3 (unhide HB3)).2.2.2
        have HO2 : Hid (w4.ownsRow (w.heap.size + 2) 31 2 (.slice (some ⟨g, 0, none⟩) ((ins hs (x, y)).take m).length cp) ((ins hs (x, y)).take m).length (cells2 ((ins hs (x, y)).take m))) := own_mono hsz hown
        generalize hln : ((ins hs (x, y)).take m).length = n at *
        clear L hown hb4 hb5 RV QV p0 p1
        go_wp2_with fail
        refine bodyPost_ret (v := intsRes 0 (.slice (some ⟨g, 0, none⟩) n cp)) (by simp [results, Try.results33, go_sem, intsRes, z0, z1]) rfl ?_
        rw [unhide E0, unhide E1]
        refine ⟨_, rfl, ?_, ((unhide HBW4).setCell (by simp) _).setCell (by simp) _⟩
        rw [hln]
        exact own_mono (b := w.heap.size + 2) (by omega) (own_set (base := w.heap.size + 2) (own_set (base := w.heap.size + 2) (unhide HO2) (by simp) _) (by simp) _)
    · have e0 : addCode hs (x, y) k = hitsFault hs := by simp [addCode, unhide HK, hf]
      have e1 : addList hs (x, y) k = [] := by simp [addList, e0, hf]
      have E0 := hide e0
      have E1 := hide e1
      have hd : (hitsFault hs != 0) = true := by simpa using hf
      obtain ⟨z0, z1, z2, z3⟩ := unhide RV w2 (unhide HB2)
      clear hf e0 e1 RV QV
      generalize hitsFault hs = F at *
      go_wp2_with fail
      refine bodyPost_ret (v := intsRes F (.slice none 0 0)) (by simp [results, Try.results33, go_sem, intsRes, z0, z1]) rfl ?_
      rw [unhide E0, unhide E1]
      exact told_nil (((unhide HBW2).setCell (by simp) _).setCell (by simp) _)

end Go.Proofs.Ytplhhdnmhcnhgaa
