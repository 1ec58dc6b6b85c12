/-
  The law FnExactHitsFault answers true at every slice of hits, and writes nothing that was there.
  No condition.
-/
import Derived.Test.YtplhhdnmhcnhgaaHitMarks
import Derived.Test.YtplhhdnmhcnhgaaImplFault
namespace Go.Proofs.Ytplhhdnmhcnhgaa
open Go.RowKit

theorem specHitsFault (v : Value) (zs : List (Int × Int)) (w : World) (h : IsHits w v zs) :
    Calls Try.prog 24 #[v] w fun e w' => e = .returned (.int .i64 (hitsFault zs)) ∧ Below w.heap.size w w' := by
  go_enter Try.func24, Try.ntmps24
  go_wp2_with fail
  refine (l2Fault v zs _ h).mono ?_
  rintro e w' ⟨rfl, hb⟩
  go_wp2_with fail
  go_ret
  exact ⟨rfl, hb⟩

theorem lawHitsFault_many (ao : Option Addr) (n cap : Nat) (w : World) (hn : 1048576 < n) (hm : n ≤ 9223372036854775807) :
    Calls Try.prog 5 #[.slice ao n cap] w fun e w' => e = .returned (.bool true) ∧ Below w.heap.size w w' := by
  go_enter Try.func5, Try.ntmps5
  go_wp2_with fail
  refine (szHits_many ao n cap 1048576 w hn (by omega) hm).mono ?_
  rintro e w' ⟨rfl, rfl⟩
  go_wp2_with fail
  go_ret
  exact ⟨rfl, Below.refl _ _⟩

set_option maxHeartbeats 400000 in
theorem lawHitsFault_few (ao : Option Addr) (cap : Nat) (zs : List (Int × Int)) (w : World) (h : IsHits w (.slice ao zs.length cap) zs) (hn : zs.length ≤ 1048576) :
    Calls Try.prog 5 #[.slice ao zs.length cap] w fun e w' => e = .returned (.bool true) ∧ Below w.heap.size w w' := by
  go_enter Try.func5, Try.ntmps5
  go_wp2_with fail
  refine (szHits_ok ao zs.length cap 1048576 w hn (by omega)).mono ?_
  rintro e w ⟨rfl, rfl⟩
  have hd0 : decide (((1048576 - zs.length : Nat) : Int) < 0) = false := by simp
  go_wp2_with fail
  refine (toHits _ zs _ h hn).mono ?_
  rintro e w1 ⟨v1, rfl, -, -, hi1, hb1⟩
  have h1 := h.later hb1
  go_wp2_with fail
  refine (specHitsFault v1 zs _ hi1).mono ?_
  rintro e w2 ⟨rfl, hb2⟩
  have h2 := h1.later hb2
  have b2 : Below w.heap.size w w2 := below_keep2 hb1 hb2
  clear hb1 hb2 h1 hi1
  go_wp2_with fail
  refine (toHits _ zs _ h2 hn).mono ?_
  rintro e w3 ⟨v2, rfl, -, -, hi2, hb3⟩
  have h3 := h2.later hb3
  have b3 : Below w.heap.size w w3 := below_keep2 b2 hb3
  clear hb3 b2 h2
  go_wp2_with fail
  refine (implFault v2 zs _ hi2).mono ?_
  rintro e w4 ⟨rfl, hb4⟩
  have h4 := h3.later hb4
  have i4 := hi2.later hb4
  have b4 : Below w.heap.size w w4 := below_keep2 b3 hb4
  have hne : (hitsFault zs != hitsFault zs) = false := by simp
  clear hb4 b3 h3 hi2
  go_wp2_with fail
  refine (toHits _ zs _ h4 hn).mono ?_
  rintro e w5 ⟨v3, rfl, -, -, hi3, hb5⟩
  have i5 := i4.later hb5
  have b5 : Below w.heap.size w w5 := below_keep2 b4 hb5
  clear b4 hb5 h4 i4
  go_wp2_with fail
  refine (eqHits v2 v3 zs _ i5 hi3 hn).mono ?_
  rintro e w6 ⟨rfl, hb6⟩
  have b6 : Below w.heap.size w w6 := below_keep2 b5 hb6
  clear b5 hb6 i5 hi3
  go_wp2_with fail
  go_ret
  exact ⟨rfl, b6⟩

theorem lawHitsFault (v : Value) (zs : List (Int × Int)) (w : World) (h : IsHits w v zs) :
    Calls Try.prog 5 #[v] w fun e w' => e = .returned (.bool true) ∧ Below w.heap.size w w' := by
  have h' := h
  obtain ⟨ao, cap, rfl, h1, h2, hr⟩ := h'
  by_cases hn : zs.length ≤ 1048576
  · exact lawHitsFault_few ao cap zs w h hn
  · exact lawHitsFault_many ao zs.length cap w (by omega) (by have := h2.1; unfold maxLen at this; omega)

end Go.Proofs.Ytplhhdnmhcnhgaa
