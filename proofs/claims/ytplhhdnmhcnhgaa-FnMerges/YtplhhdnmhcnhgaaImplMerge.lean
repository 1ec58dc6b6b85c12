/-
  The program's MergeHits: code and hits in plain words; the hits lie in new memory; nothing old is written.
  No condition.
-/
import Derived.Test.YtplhhdnmhcnhgaaImplFirst
import Derived.Test.YtplhhdnmhcnhgaaImplFault
import Derived.Test.YtplhhdnmhcnhgaaHitConcat
import Derived.Test.YtplhhdnmhcnhgaaHitOps3
namespace Go.Proofs.Ytplhhdnmhcnhgaa
open Go.RowKit

set_option maxRecDepth 100000 in
set_option maxHeartbeats 1000000 in
theorem implMerge (u v : Value) (a b : List (Int × Int)) (k : Int) (w : World) (ha : IsHits w u a) (hb : IsHits w v b) :
    Calls Try.prog 19 #[u, v, .int .i64 k] w fun e w' => Told w w' e (mergeCode a b k) (mergeList a b k) := by
  have HA := hide ha
  have HV := hide hb
  have bb : Below w.heap.size w (w.alloc (.cells #[.int .i64 0, .slice none 0 0] 28)) := (Below.refl _ _).alloc (Nat.le_refl _) _
  have RV : Hid (∀ W, Below (w.alloc (.cells #[.int .i64 0, .slice none 0 0] 28)).heap.size (w.alloc (.cells #[.int .i64 0, .slice none 0 0] 28)) W → W.cell? ⟨w.heap.size, 0, none⟩ = some (.int .i64 0) ∧ W.cell? ⟨w.heap.size, 1, none⟩ = some (.slice none 0 0) ∧ (∀ o, W.frozen? ⟨w.heap.size, o, none⟩ = false) ∧ w.heap.size < W.heap.size) := fun W hW => resVar hW
  have HBB := hide bb
  clear ha hb bb
  go_enter Try.func19, Try.ntmps19
  go_wp2_with fail
  have hs1 : (w.alloc (.cells #[.int .i64 0, .slice none 0 0] 28)).heap.size = w.heap.size + 1 := by simp
  generalize hwb : w.alloc (.cells #[.int .i64 0, .slice none 0 0] 28) = wb at *
  have HS1 := hide hs1
  clear hwb hs1
  refine (implWanted k _).mono ?_
  rintro e w1 ⟨rfl, rfl⟩
  cases hk : kB k with
  | false =>
    have e0 : mergeCode a b k = 3 := by simp [mergeCode, hk]
    have e1 : mergeList a b k = [] := by simp [mergeList, e0]
    have hk' : (decide ((0 : Int) ≤ k) && decide (k ≤ 20)) = false := hk
    rw [hk']
    have E0 := hide e0
    have E1 := hide e1
    obtain ⟨z0, z1, z2, z3⟩ := unhide RV w1 (Below.refl _ _)
    clear hk hk' e0 e1 RV
    go_wp2_with fail
    refine bodyPost_ret (v := intsRes 3 (.slice none 0 0)) (by simp [results, Try.results19, go_sem, intsRes, z0, z1]) rfl ?_
    rw [unhide E0, unhide E1]
    exact told_nil (((unhide HBB).setCell (by simp) _).setCell (by simp) _)
  | true =>
    have hk' : (decide ((0 : Int) ≤ k) && decide (k ≤ 20)) = true := hk
    rw [hk']
    have HK := hide hk
    clear hk hk'
    go_wp2_with fail
    refine (implFault u a _ ((unhide HA).later (unhide HBB))).mono ?_
    rintro e w2 ⟨rfl, hb2⟩
    have HB2 := hide hb2
    have HBW2 := hide (below_keep2 (unhide HBB) hb2)
    clear hb2
    by_cases hf : hitsFault a = 0
    · rw [hf]
      have HF := hide hf
      clear hf
      go_wp2_with fail
      refine (implFault v b _ ((unhide HV).later (unhide HBW2))).mono ?_
      rintro e w3 ⟨rfl, hb3⟩
      have HB3 := hide (below_keep2 (unhide HB2) hb3)
      have HBW3 := hide (below_keep2 (unhide HBW2) hb3)
      clear hb3
      by_cases hg : hitsFault b = 0
      · rw [hg]
        have hkk : 0 ≤ k ∧ k ≤ 20 := by simpa [kB] using unhide HK
        obtain ⟨m, rfl⟩ : ∃ m : Nat, k = m := ⟨k.toNat, by omega⟩
        have e0 : mergeCode a b m = 0 := by simp [mergeCode, unhide HK, unhide HF, hg]
        have e1 : mergeList a b m = best m (a ++ b) := by simp [mergeList, e0]
        have E0 := hide e0
        have E1 := hide e1
        have la := (hitsFault_zero (unhide HF)).1
        have lb := (hitsFault_zero hg).1
        have hsz := (unhide RV w3 (unhide HB3)).2.2.2
        have hau : ∃ au nu cu, u = .slice au nu cu := by obtain ⟨au, cu, h, -⟩ := unhide HA; exact ⟨au, _, cu, h⟩
        have hav : ∃ av nv cv, v = .slice av nv cv := by obtain ⟨av, cv, h, -⟩ := unhide HV; exact ⟨av, _, cv, h⟩
        obtain ⟨au, nu, cu, rfl⟩ := hau
        obtain ⟨av, nv, cv, rfl⟩ := hav
        have n1 : Below w3.heap.size w3 (w3.alloc (.cells #[.slice au nu cu, .slice av nv cv] 24)) := (Below.refl _ _).alloc (Nat.le_refl _) _
        obtain ⟨k0, k1⟩ := new_cells (w := w3) (T := 24) (x := .slice au nu cu) (y := .slice av nv cv)
        have X1 := ((unhide HA).later (unhide HBW3)).later n1
        have X2 := ((unhide HV).later (unhide HBW3)).later n1
        have LC := implConcat w3.heap.size (.slice au nu cu) (.slice av nv cv) a b (w3.alloc (.cells #[.slice au nu cu, .slice av nv cv] 24)) k0 k1 X1 X2 (by omega) (by omega)
        have HB4 := hide (below_keep2 (unhide HB3) n1)
        have HBW4 := hide (below_keep2 (unhide HBW3) n1)
        have hwab : ∀ p ∈ a ++ b, Wf2 p := fun p hp => by
          rcases List.mem_append.1 hp with h | h
          · exact X1.wf p h
          · exact X2.wf p h
        have HWAB := hide hwab
        clear hg e0 e1 n1 k0 k1 X1 X2 hwab
        go_wp2_with fail
        refine LC.mono ?_
        rintro e w5 ⟨r5, rfl, O5, b5⟩
        have X5 := isHits_row (unhide HWAB) O5
        have L := implFirst r5 (a ++ b) m w5 X5 (by simp; omega) (by omega)
        have HB6 := hide (below_keep2 (unhide HBW4) b5)
        have HB6' := hide (below_keep2 (unhide HB4) b5)
        have hsz5 : w.heap.size + 1 ≤ w5.heap.size := by have := b5.size; simp at this; omega
        clear LC O5 b5 X5 hkk
        go_wp2_with fail
        refine L.mono ?_
        rintro e w6 ⟨r6, rfl, hown, hb6⟩
        have b7 := below_keep2 (unhide HB6') hb6
        obtain ⟨z0, z1, z2, z3⟩ := unhide RV w6 b7
        have HBW6 := hide (below_keep2 (unhide HB6) hb6)
        have HO2 := hide (own_mono hsz5 hown)
        obtain ⟨a6, c6, rfl⟩ := own_shape hown
        generalize hln : (best m (a ++ b)).length = n at *
        clear L hown hb6 b7 RV
        go_wp2_with fail
        refine bodyPost_ret (v := intsRes 0 (.slice a6 n c6)) (by simp [results, Try.results19, go_sem, intsRes, z0, z1]) rfl ?_
        rw [unhide E0, unhide E1]
        refine ⟨_, rfl, ?_, ((unhide HBW6).setCell (by simp) _).setCell (by simp) _⟩
        rw [hln]
        exact own_mono (Nat.le_succ _) (own_set (base := w.heap.size + 1) (own_set (base := w.heap.size + 1) (unhide HO2) (by simp) _) (by simp) _)
      · have e0 : mergeCode a b k = hitsFault b := by simp [mergeCode, unhide HK, unhide HF]
        have e1 : mergeList a b k = [] := by simp [mergeList, e0, hg]
        have E0 := hide e0
        have E1 := hide e1
        have hd : (hitsFault b != 0) = true := by simpa using hg
        obtain ⟨z0, z1, z2, z3⟩ := unhide RV w3 (unhide HB3)
        clear hg e0 e1 RV
        generalize hitsFault b = F at *
        go_wp2_with fail
        refine bodyPost_ret (v := intsRes F (.slice none 0 0)) (by simp [results, Try.results19, go_sem, intsRes, z0, z1]) rfl ?_
        rw [unhide E0, unhide E1]
        exact told_nil (((unhide HBW3).setCell (by simp) _).setCell (by simp) _)
    · have e0 : mergeCode a b k = hitsFault a := by simp [mergeCode, unhide HK, hf]
      have e1 : mergeList a b k = [] := by simp [mergeList, e0, hf]
      have E0 := hide e0
      have E1 := hide e1
      have hd : (hitsFault a != 0) = true := by simpa using hf
      obtain ⟨z0, z1, z2, z3⟩ := unhide RV w2 (unhide HB2)
      clear hf e0 e1 RV
      generalize hitsFault a = F at *
      go_wp2_with fail
      refine bodyPost_ret (v := intsRes F (.slice none 0 0)) (by simp [results, Try.results19, go_sem, intsRes, z0, z1]) rfl ?_
      rw [unhide E0, unhide E1]
      exact told_nil (((unhide HBW2).setCell (by simp) _).setCell (by simp) _)

end Go.Proofs.Ytplhhdnmhcnhgaa
