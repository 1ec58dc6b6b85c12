/-
  The program's BestOf: code and hits in plain words; the hits lie in new memory; nothing old is written.
  No condition.
-/
import Derived.Test.YteekfapjfpkidaaImplFirst
import Derived.Test.YteekfapjfpkidaaImplLoose
import Derived.Test.YteekfapjfpkidaaHitOpsB
namespace Go.Proofs.Yteekfapjfpkidaa
open Go.RowKit

theorem bestCode_eq (hs : List (Int × Int)) (k : Int) : bestCode hs k = if kB k then looseOf hs else 3 := rfl

theorem looseOf_zero {hs : List (Int × Int)} (h : looseOf hs = 0) : hs.length ≤ 200 := by
  unfold looseOf at h
  split at h
  · omega
  · omega

set_option maxRecDepth 100000 in
set_option maxHeartbeats 1000000 in
theorem implBest_all (v : Value) (hs : List (Int × Int)) (k : Int) (w : World) (h : IsHits w v hs) :
    Calls Try.prog 51 #[v, .int .i64 k] w fun e w' => Told w w' e (bestCode hs k) (bestList hs k) := by
  have HH := hide h
  have bb : Below w.heap.size w (w.alloc (.cells #[.int .i64 0, .slice none 0 0] 33)) := (Below.refl _ _).alloc (Nat.le_refl _) _
  clear h
  go_enter Try.func51, Try.ntmps51
  go_wp2_with fail
  refine (implWanted k _).mono ?_
  rintro e w1 ⟨rfl, rfl⟩
  have RV : Hid (∀ W, Below (w.alloc (.cells #[.int .i64 0, .slice none 0 0] 33)).heap.size (w.alloc (.cells #[.int .i64 0, .slice none 0 0] 33)) W → W.cell? ⟨w.heap.size, 0, none⟩ = some (.int .i64 0) ∧ W.cell? ⟨w.heap.size, 1, none⟩ = some (.slice none 0 0) ∧ (∀ o, W.frozen? ⟨w.heap.size, o, none⟩ = false) ∧ w.heap.size < W.heap.size) := fun W hW => resVar hW
  have HBB := hide bb
  clear bb
  generalize hwb : w.alloc (.cells #[.int .i64 0, .slice none 0 0] 33) = wb at *
  clear hwb
  cases hk : kB k with
  | false =>
    have e0 : bestCode hs k = 3 := by simp [bestCode_eq, hk]
    have e1 : bestList hs k = [] := by simp [bestList, e0]
    have hk' : (decide ((0 : Int) ≤ k) && decide (k ≤ 20)) = false := hk
    rw [hk']
    have E0 := hide e0
    have E1 := hide e1
    obtain ⟨z0, z1, z2, z3⟩ := unhide RV wb (Below.refl _ _)
    clear hk hk' e0 e1 RV
    go_wp2_with fail
    refine bodyPost_ret (v := intsRes 3 (.slice none 0 0)) (by simp [results, Try.results51, go_sem, intsRes, z0, z1]) rfl ?_
    rw [unhide E0, unhide E1]
    exact told_nil (((unhide HBB).setCell (by simp) _).setCell (by simp) _)
  | true =>
    have hk' : (decide ((0 : Int) ≤ k) && decide (k ≤ 20)) = true := hk
    rw [hk']
    have HK := hide hk
    clear hk hk'
    go_wp2_with fail
    refine (implLoose v hs _ ((unhide HH).later (unhide HBB))).mono ?_
    rintro e w2 ⟨rfl, hb2⟩
    have HB2 := hide hb2
    have HBW2 := hide (below_keep2 (unhide HBB) hb2)
    clear hb2
    by_cases hf : looseOf hs = 0
    · rw [hf]
      have hkk : 0 ≤ k ∧ k ≤ 20 := by simpa [kB] using unhide HK
      obtain ⟨m, rfl⟩ : ∃ m : Nat, k = m := ⟨k.toNat, by omega⟩
      have e0 : bestCode hs m = 0 := by simp [bestCode_eq, unhide HK, hf]
      have e1 : bestList hs m = best m hs := by simp [bestList, e0]
      have E0 := hide e0
      have E1 := hide e1
      have hl := looseOf_zero hf
      have L := implFirst v hs m w2 ((unhide HH).later (unhide HBW2)) (by omega) (by omega)
      clear hf e0 e1 hkk hl
      go_wp2_with fail
      refine L.mono ?_
      rintro e w4 ⟨r, rfl, hown, hb4⟩
      have hb5 := below_keep2 (unhide HB2) hb4
      obtain ⟨z0, z1, z2, z3⟩ := unhide RV w4 hb5
      have HBW4 := hide (below_keep2 (unhide HBW2) hb4)
      have hsz := (unhide RV w2 (unhide HB2)).2.2.2
      have HO2 : Hid (w4.ownsRow (w.heap.size + 1) 88 2 r (best m hs).length (cells2 (best m hs))) := own_mono hsz hown
      obtain ⟨a2, c2, rfl⟩ := own_shape hown
      generalize hln : (best m hs).length = n at *
      clear L hown hb4 hb5 RV
      go_wp2_with fail
      refine bodyPost_ret (v := intsRes 0 (.slice a2 n c2)) (by simp [results, Try.results51, go_sem, intsRes, z0, z1]) rfl ?_
      rw [unhide E0, unhide E1]
      refine ⟨_, rfl, ?_, ((unhide HBW4).setCell (by simp) _).setCell (by simp) _⟩
      rw [hln]
      exact own_mono (b := w.heap.size + 1) (by omega) (own_set (base := w.heap.size + 1) (own_set (base := w.heap.size + 1) (unhide HO2) (by simp) _) (by simp) _)
    · have e0 : bestCode hs k = looseOf hs := by simp [bestCode_eq, unhide HK]
      have e1 : bestList hs k = [] := by simp [bestList, e0, hf]
      have E0 := hide e0
      have E1 := hide e1
      have hd : (looseOf hs != 0) = true := by simpa using hf
      obtain ⟨z0, z1, z2, z3⟩ := unhide RV w2 (unhide HB2)
      clear hf e0 e1 RV
      generalize looseOf hs = F at *
      go_wp2_with fail
      refine bodyPost_ret (v := intsRes F (.slice none 0 0)) (by simp [results, Try.results51, go_sem, intsRes, z0, z1]) rfl ?_
      rw [unhide E0, unhide E1]
      exact told_nil (((unhide HBW2).setCell (by simp) _).setCell (by simp) _)

end Go.Proofs.Yteekfapjfpkidaa
