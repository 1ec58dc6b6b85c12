/-
  The program's firstHits gives the best k of a list: a new slice of its own (or none); nothing old is written.
  Condition: at most 100000 hits; k from 0 on.
-/
import Derived.Test.YteekfapjfpkidaaImplKeep
import Derived.Test.YteekfapjfpkidaaHitBest
namespace Go.Proofs.Yteekfapjfpkidaa
open Go.RowKit

set_option maxHeartbeats 1000000 in
theorem implFirst (v : Value) (hs : List (Int × Int)) (k : Nat) (w : World) (h : IsHits w v hs) (hn : hs.length ≤ 100000) (hk : k ≤ 100) :
    Calls Try.prog 77 #[v, .int .i64 k, .func (.func 78) #[] #[]] w fun e w' =>
      ∃ r, e = .returned r ∧ w'.ownsRow w.heap.size 88 2 r (best k hs).length (cells2 (best k hs)) ∧ Below w.heap.size w w' := by
  obtain ⟨ao, cap, rfl, h1, h2, hwf, hc⟩ := h
  have HWF := hide hwf
  clear hwf h2
  go_enter Try.func77, Try.ntmps77
  go_wp2_with fail
  go_loopw [7, 12] (fun v i wr => ∃ (j : Nat) (a : Option Addr) (cp : Nat), j ≤ hs.length ∧ i = .int .i64 j ∧ v = .slice a (best k (hs.take j)).length cp ∧ wr.ownsRow w.heap.size 88 2 v (best k (hs.take j)).length (cells2 (best k (hs.take j))) ∧ Below w.heap.size w wr)
    (fun _ i _ => hs.length - (intOf i).toNat)
  case atStart => exact ⟨0, none, 0, Nat.zero_le _, rfl, rfl, World.ownsRow_nil _ _ _ _, Below.refl _ _⟩
  case round =>
    obtain ⟨j, a, cp, hj, rfl, rfl, hown, hB⟩ := hrel
    by_cases hlt : j < hs.length
    · obtain ⟨x, y, hxy⟩ : ∃ x y, hs[j]? = some (x, y) := ⟨hs[j].1, hs[j].2, by simp [hlt]⟩
      obtain ⟨b, off, rfl, hcd⟩ := hc (by omega)
      have c1 := (hB.cell (World.block_lt_of_cell? _ _ (hcd j x y hxy).1)).trans (hcd j x y hxy).1
      have c2 := (hB.cell (World.block_lt_of_cell? _ _ (hcd j x y hxy).2)).trans (hcd j x y hxy).2
      have hw1 : ∀ p ∈ best k (hs.take j), Wf2 p := fun p hp => unhide HWF p (List.mem_of_mem_take (best_mem hp))
      have hl := best_len k (hs.take j)
      have hwh : Wf2 (x, y) := unhide HWF _ (List.mem_of_getElem? hxy)
      have HS := hide (best_snoc k hs j x y hxy)
      have L := implKeep w.heap.size (.slice a (best k (hs.take j)).length cp) (best k (hs.take j)) x y k (wr.alloc (.cells #[.int .i64 x, .int .i64 y] 88)) (hown.alloc _) (by omega) hl (by omega) (by have := hB.size; simp; omega) hw1 hwh
      rw [← unhide HS] at L
      have HB := hide (hB.alloc hB.size (.cells #[.int .i64 x, .int .i64 y] 88))
      have HC := hide hc
      clear hown hB hc hcd hxy hw1 hl hwh HS
      generalize (best k (hs.take j)).length = n at *
      go_wp2_with fail
      refine L.mono ?_
      rintro e w1 ⟨r, rfl, ho, hb⟩
      obtain ⟨a1, cp1, rfl⟩ := own_shape ho
      have HO := hide ho
      have HB1 := hide ((unhide HB).trans hb)
      clear L ho hb HB c1 c2
      go_wp2_with fail
      go_roundw
      case rel => exact ⟨j + 1, a1, cp1, by omega, by go_num, rfl, unhide HO, unhide HB1⟩
      case measure => simp [intOf]; omega
    · obtain rfl : j = hs.length := by omega
      rw [List.take_length] at hown ⊢
      have HO := hide hown
      have HB := hide hB
      clear hown hB hc
      go_wp2_with fail
      go_ret
      exact ⟨_, rfl, unhide HO, unhide HB⟩

end Go.Proofs.Yteekfapjfpkidaa
