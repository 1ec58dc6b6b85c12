/-
  The program's AddHit: code and hits in plain words; the hits lie in new memory; nothing old is written.
  No condition.
-/
import Derived.Test.YtplhhdnmhcnhgaaImplFirst
import Derived.Test.YtplhhdnmhcnhgaaImplFault
import Derived.Test.YtplhhdnmhcnhgaaHitOps2
namespace Go.Proofs.Ytplhhdnmhcnhgaa
open Go.RowKit

set_option maxRecDepth 100000 in
set_option maxHeartbeats 1000000 in
theorem implAdd (v : Value) (hs : List (Int × Int)) (x y k : Int) (w : World) (h : IsHits w v hs) (hwh : Wf2 (x, y)) :
    Calls Try.prog 21 #[v, .agg #[.int .i64 x, .int .i64 y], .int .i64 k] w fun e w' => Told w w' e (addCode hs (x, y) k) (addList hs (x, y) k) := by
  have HH := hide h
  have B0 : Below w.heap.size w (w.alloc (.cells #[.int .i64 x, .int .i64 y] 31)) := (Below.refl _ _).alloc (Nat.le_refl _) _
  obtain ⟨q0, q1⟩ := new_cells (w := w) (T := 31) (x := .int .i64 x) (y := .int .i64 y)
  clear h
  go_enter Try.func21, Try.ntmps21
  go_wp2_with fail
  generalize hwa : w.alloc (.cells #[.int .i64 x, .int .i64 y] 31) = wa at *
  have hsa : wa.heap.size = w.heap.size + 1 := by rw [← hwa]; simp
  have bb : Below w.heap.size w (wa.alloc (.cells #[.int .i64 0, .slice none 0 0] 28)) := B0.alloc (by omega) _
  refine (implWanted k _).mono ?_
  rintro e w1 ⟨rfl, rfl⟩
  have RV : Hid (∀ W, Below (wa.alloc (.cells #[.int .i64 0, .slice none 0 0] 28)).heap.size (wa.alloc (.cells #[.int .i64 0, .slice none 0 0] 28)) W → W.cell? ⟨w.heap.size + 1, 0, none⟩ = some (.int .i64 0) ∧ W.cell? ⟨w.heap.size + 1, 1, none⟩ = some (.slice none 0 0) ∧ (∀ o, W.frozen? ⟨w.heap.size + 1, o, none⟩ = false) ∧ w.heap.size + 1 < W.heap.size) := by
    intro W hW
    have := resVar hW
    rwa [hsa] at this
  have QV : Hid (∀ W, Below (wa.alloc (.cells #[.int .i64 0, .slice none 0 0] 28)).heap.size (wa.alloc (.cells #[.int .i64 0, .slice none 0 0] 28)) W → W.cell? ⟨w.heap.size, 0, none⟩ = some (.int .i64 x) ∧ W.cell? ⟨w.heap.size, 1, none⟩ = some (.int .i64 y)) := by
    intro W hW
    have n1 := World.grownBy_alloc wa (.cells #[.int .i64 0, .slice none 0 0] 28) none
    exact ⟨cell_keep hW (n1.cell q0 (by simp)), cell_keep hW (n1.cell q1 (by simp))⟩
  have HBB := hide bb
  clear q0 q1 B0 bb hwa
  generalize hwb : wa.alloc (.cells #[.int .i64 0, .slice none 0 0] 28) = wb at *
  clear hwb
  cases hk : kB k with
  | false =>
    have e0 : addCode hs (x, y) k = 3 := by simp [addCode, hk]
    have e1 : addList hs (x, y) k = [] := by simp [addList, e0]
    have hk' : (decide ((0 : Int) ≤ k) && decide (k ≤ 20)) = false := hk
    rw [hk']
    have E0 := hide e0
    have E1 := hide e1
    obtain ⟨z0, z1, z2, z3⟩ := unhide RV wb (Below.refl _ _)
    clear hk hk' e0 e1 RV QV
    go_wp2_with fail
    refine bodyPost_ret (v := intsRes 3 (.slice none 0 0)) (by simp [results, Try.results21, go_sem, intsRes, z0, z1]) rfl ?_
    rw [unhide E0, unhide E1]
    exact told_nil (((unhide HBB).setCell (by simp) _).setCell (by simp) _)
  | true =>
    have hk' : (decide ((0 : Int) ≤ k) && decide (k ≤ 20)) = true := hk
    rw [hk']
    have HK := hide hk
    clear hk hk'
    go_wp2_with fail
    refine (implFault v hs _ ((unhide HH).later (unhide HBB))).mono ?_
    rintro e w2 ⟨rfl, hb2⟩
    have HB2 := hide hb2
    have HBW2 := hide (below_keep2 (unhide HBB) hb2)
    clear hb2
    by_cases hf : hitsFault hs = 0
    · rw [hf]
      have HF := hide hf
      obtain ⟨p0, p1⟩ := unhide QV w2 (unhide HB2)
      clear hf
      go_wp2_with fail
      refine (implIsHit x y _).mono ?_
      rintro e w3 ⟨rfl, hb3⟩
      have HB3 := hide (below_keep2 (unhide HB2) hb3)
      have HBW3 := hide (below_keep2 (unhide HBW2) hb3)
      clear hb3 p0 p1
      cases ho : oneB (x, y) with
      | false =>
        have e0 : addCode hs (x, y) k = 3 := by simp [addCode, unhide HK, unhide HF, ho]
        have e1 : addList hs (x, y) k = [] := by simp [addList, e0]
        have E0 := hide e0
        have E1 := hide e1
        obtain ⟨z0, z1, z2, z3⟩ := unhide RV w3 (unhide HB3)
        clear ho e0 e1 RV QV
        go_wp2_with fail
        refine bodyPost_ret (v := intsRes 3 (.slice none 0 0)) (by simp [results, Try.results21, go_sem, intsRes, z0, z1]) rfl ?_
        rw [unhide E0, unhide E1]
        exact told_nil (((unhide HBW3).setCell (by simp) _).setCell (by simp) _)
      | true =>
        have hkk : 0 ≤ k ∧ k ≤ 20 := by simpa [kB] using unhide HK
        obtain ⟨m, rfl⟩ : ∃ m : Nat, k = m := ⟨k.toNat, by omega⟩
        have e0 : addCode hs (x, y) m = 0 := by simp [addCode, unhide HK, unhide HF, ho]
        have e1 : addList hs (x, y) m = (ins hs (x, y)).take m := by simp [addList, e0]
        have E0 := hide e0
        have E1 := hide e1
        obtain ⟨p0, p1⟩ := unhide QV w3 (unhide HB3)
        obtain ⟨hl20, -, hsort⟩ := hitsFault_zero (unhide HF)
        have eb : best m hs = hs.take m := by rw [best_eq, allOf_of_sorted hsort]
        have el : (ins (best m hs) (x, y)).take m = (ins hs (x, y)).take m := by rw [eb, ins_take]
        have hwfb : ∀ p ∈ best m hs, Wf2 p := fun p hp => (unhide HH).wf p (best_mem hp)
        have hs3 := (unhide RV w3 (unhide HB3)).2.2.2
        have L1 : Hid (∀ W, Below w3.heap.size w3 W → Calls Try.prog 41 #[v, .int .i64 m, .func (.func 15) #[] #[]] W fun e w' => ∃ r, e = .returned r ∧ w'.ownsRow (w.heap.size + 2) 31 2 r (best m hs).length (cells2 (best m hs)) ∧ Below w3.heap.size w3 w') := fun W hW =>
          (implFirst v hs m W (((unhide HH).later (unhide HBW3)).later hW) (by omega) (by omega)).mono fun e w' ⟨r, h1, h2, h3⟩ => ⟨r, h1, own_mono (by have := hW.size; omega) h2, below_keep2 hW h3⟩
        have L2 : Hid (∀ W r, W.ownsRow (w.heap.size + 2) 31 2 r (best m hs).length (cells2 (best m hs)) → Below w3.heap.size w3 W → Calls Try.prog 49 #[r, .agg #[.int .i64 x, .int .i64 y], .int .i64 m, .func (.func 15) #[] #[]] W fun e w' => ∃ r, e = .returned r ∧ w'.ownsRow (w.heap.size + 2) 31 2 r ((ins hs (x, y)).take m).length (cells2 ((ins hs (x, y)).take m)) ∧ Below (w.heap.size + 2) w3 w') := fun W r ho hW => by
          have hb := best_len m hs
          have hz := hW.size
          refine (implKeep (w.heap.size + 2) r (best m hs) x y m W ho (by omega) hb (by omega) (by omega) hwfb hwh).mono ?_
          rintro e w' ⟨r', h1, h2, h3⟩
          rw [el] at h2
          exact ⟨r', h1, h2, (hW.mono (by omega)).trans h3⟩
        clear ho e0 e1 hkk hl20 hsort eb el hwfb
        obtain ⟨y0, y1, y2, y3⟩ := unhide RV w3 (unhide HB3)
        have Y0 := hide y0
        have Y1 := hide y1
        have Y2 := hide y2
        clear y0 y1 y2
        generalize hln : ((ins hs (x, y)).take m).length = n at *
        go_wp2_with fail
        first
          | go_region_with (first
              | (go_at_call 41; refine (unhide L1 _ (by first | exact Below.refl _ _ | exact (Below.refl _ _).drew | exact (Below.refl _ _).drew.drew)).mono ?_; rintro e w4 ⟨r, rfl, ho4, hb4⟩; have p4 := cell_keep hb4 p0; have p5 := cell_keep hb4 p1)
              | (go_at_call 49; refine (unhide L2 _ _ (by first | exact ho4 | exact ho4.drew | exact ho4.drew.drew) (by first | exact hb4 | exact hb4.drew | exact hb4.drew.drew)).mono ?_; rintro e w5 ⟨r5, rfl, ho5, hb5⟩; obtain ⟨a5, c5, rfl⟩ := own_shape ho5; have z0 := (hb5.cell (p := ⟨w.heap.size + 1, 0, none⟩) (by simp)).trans (unhide Y0); have z1 := (hb5.cell (p := ⟨w.heap.size + 1, 1, none⟩) (by simp)).trans (unhide Y1); have z2 : ∀ o, w5.frozen? ⟨w.heap.size + 1, o, none⟩ = false := fun o => (hb5.frozen (p := ⟨w.heap.size + 1, o, none⟩) (by simp)).trans (unhide Y2 o); have z3 : w.heap.size + 1 < w5.heap.size := Nat.lt_of_lt_of_le y3 hb5.size; have HO2 := hide ho5; have HB5 := hide hb5; clear ho5 hb5))
          | fail
        all_goals
          have HBW5 : Hid (Below w.heap.size w w5) := (unhide HBW3).trans ((unhide HB5).mono (by omega))
          clear ho4 hb4 p4 p5 p0 p1 HB5 L1 L2 RV QV
          go_wp2_with fail
          refine bodyPost_ret (v := intsRes 0 (.slice a5 n c5)) (by simp [results, Try.results21, go_sem, intsRes, z0, z1]) rfl ?_
          rw [unhide E0, unhide E1]
          refine ⟨_, rfl, ?_, ((unhide HBW5).setCell (by simp) _).setCell (by simp) _⟩
          rw [hln]
          exact own_mono (b := w.heap.size + 2) (by omega) (own_set (base := w.heap.size + 2) (own_set (base := w.heap.size + 2) (unhide HO2) (by simp) _) (by simp) _)
    · have e0 : addCode hs (x, y) k = hitsFault hs := by simp [addCode, unhide HK, hf]
      have e1 : addList hs (x, y) k = [] := by simp [addList, e0, hf]
      have E0 := hide e0
      have E1 := hide e1
      have hd : (hitsFault hs != 0) = true := by simpa using hf
      obtain ⟨z0, z1, z2, z3⟩ := unhide RV w2 (unhide HB2)
      clear hf e0 e1 RV QV
      generalize hitsFault hs = F at *
      go_wp2_with fail
      refine bodyPost_ret (v := intsRes F (.slice none 0 0)) (by simp [results, Try.results21, go_sem, intsRes, z0, z1]) rfl ?_
      rw [unhide E0, unhide E1]
      exact told_nil (((unhide HBW2).setCell (by simp) _).setCell (by simp) _)

end Go.Proofs.Ytplhhdnmhcnhgaa
