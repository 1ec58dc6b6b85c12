/-
  The law FnExactVecFault answers true at every slice of int64, and writes nothing that was there.
  No condition.
-/
import Derived.Test.YtccocdpgflapoafInts
import Derived.Test.YtccocdpgflapoafFault
namespace Go.Proofs.Ytccocdpgflapoaf
open Go.RowKit

theorem specVecFault (v : Value) (zs : List Int) (w : World) (h : IsInts w v zs) :
    Calls Try.prog 4 #[v] w fun e w' => e = .returned (.int .i64 (vecFault zs)) ∧ w' = w := by
  go_enter Try.func4, Try.ntmps4
  go_wp2_with fail
  refine (modelFault v zs _ h).mono ?_
  rintro e w' ⟨rfl, rfl⟩
  go_wp2_with fail
  go_ret
  exact ⟨rfl, rfl⟩

set_option maxHeartbeats 400000 in
theorem lawVecFault_many (ao : Option Addr) (n cap : Nat) (w : World) (hn : 1048576 < n) :
    Calls Try.prog 3 #[.slice ao n cap] w fun e w' => e = .returned (.bool true) ∧ Below w.heap.size w w' := by
  go_enter Try.func3, Try.ntmps3
  go_wp2_with fail
  go_ret
  exact ⟨rfl, Below.refl _ _⟩

set_option maxHeartbeats 400000 in
theorem lawVecFault_few (ao : Option Addr) (cap : Nat) (zs : List Int) (w : World) (h : IsInts w (.slice ao zs.length cap) zs) (hn : zs.length ≤ 1048576) :
    Calls Try.prog 3 #[.slice ao zs.length cap] w fun e w' => e = .returned (.bool true) ∧ Below w.heap.size w w' := by
  go_enter Try.func3, Try.ntmps3
  go_wp2_with fail
  refine (toInts _ zs _ h hn).mono ?_
  rintro e w1 ⟨v1, rfl, -, -, hi1, hb1⟩
  have h1 := h.later hb1
  go_wp2_with fail
  refine (specVecFault v1 zs _ hi1).mono ?_
  rintro e w1' ⟨rfl, rfl⟩
  go_wp2_with fail
  refine (toInts _ zs _ h1 hn).mono ?_
  rintro e w2 ⟨v2, rfl, -, -, hi2, hb2⟩
  have h2 := h1.later hb2
  have hb12 : Below w.heap.size w w2 := hb1.trans (hb2.mono hb1.size)
  clear hb1 hb2 h1 hi1
  go_wp2_with fail
  refine (implFault v2 zs _ hi2).mono ?_
  rintro e w2' ⟨rfl, rfl⟩
  have hne : (vecFault zs != vecFault zs) = false := by simp
  go_wp2_with fail
  refine (toInts _ zs _ h2 hn).mono ?_
  rintro e w3 ⟨v3, rfl, -, -, hi3, hb3⟩
  have hi2' := hi2.later hb3
  have hb13 : Below w.heap.size w w3 := hb12.trans (hb3.mono hb12.size)
  clear hb12 hb3 h2 hi2
  go_wp2_with fail
  refine (eqInts v2 v3 zs _ hi2' hi3 hn).mono ?_
  rintro e w4 ⟨rfl, hb4⟩
  have hb14 : Below w.heap.size w w4 := hb13.trans (hb4.mono hb13.size)
  go_wp2_with fail
  go_ret
  exact ⟨rfl, hb14⟩

theorem lawVecFault (v : Value) (zs : List Int) (w : World) (h : IsInts w v zs) :
    Calls Try.prog 3 #[v] w fun e w' => e = .returned (.bool true) ∧ Below w.heap.size w w' := by
  obtain ⟨ao, cap, rfl, hr⟩ := h
  by_cases hn : zs.length ≤ 1048576
  · exact lawVecFault_few ao cap zs w ⟨ao, cap, rfl, hr⟩ hn
  · exact lawVecFault_many ao zs.length cap w (by omega)

end Go.Proofs.Ytccocdpgflapoaf
