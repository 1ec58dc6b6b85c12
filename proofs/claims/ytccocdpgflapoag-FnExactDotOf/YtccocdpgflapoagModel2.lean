/-
  DotOf of the model tells the same as that of the program; eqIntResult says that a result is itself.
  No condition.
-/
import Derived.Test.YtccocdpgflapoagModel1
namespace Go.Proofs.Ytccocdpgflapoag
open Go.RowKit

set_option maxHeartbeats 400000 in
theorem modelDot_code (v1 v2 : Value) (zs ys : List Int) (w : World) (h : IsInts w v1 zs) (h2 : IsInts w v2 ys) (ht : twoFault zs ys ≠ 0) :
    Calls Try.prog 12 #[v1, v2] w fun e w' => e = .returned (intRes (twoFault zs ys) 0) ∧ Below w.heap.size w w' := by
  have hne : (twoFault zs ys != 0) = true := by rw [bne_iff_ne]; exact ht
  go_enter Try.func12, Try.ntmps12
  go_wp2_with fail
  refine (modelTwo v1 v2 zs ys _ (h.later ((Below.refl _ _).alloc (Nat.le_refl _) _)) (h2.later ((Below.refl _ _).alloc (Nat.le_refl _) _))).mono ?_
  rintro e w1 ⟨rfl, rfl⟩
  go_wp2_with fail
  refine bodyPost_ret (v := intRes (twoFault zs ys) 0) (by simp [results, Try.results12, go_sem, intRes]) rfl ⟨rfl, ?_⟩
  exact (Below.refl _ _).alloc (Nat.le_refl _) _

set_option maxHeartbeats 1000000 in
theorem modelDot_ok (v1 v2 : Value) (x y z a b c : Int) (w : World) (h : IsInts w v1 [x, y, z]) (h2 : IsInts w v2 [a, b, c]) (ht : twoFault [x, y, z] [a, b, c] = 0) :
    Calls Try.prog 12 #[v1, v2] w fun e w' => e = .returned (intRes 0 (x * a + y * b + z * c)) ∧ Below w.heap.size w w' := by
  obtain ⟨f1, f2, _⟩ := two_ok ht
  obtain ⟨⟨x1, x2⟩, ⟨y1, y2⟩, ⟨z1, z2⟩⟩ := fault3 f1
  obtain ⟨⟨a1, a2⟩, ⟨b1, b3⟩, ⟨c3, c4⟩⟩ := fault3 f2
  obtain ⟨m1, m2⟩ := mul_bd x a x1 x2 a1 a2
  obtain ⟨m3, m4⟩ := mul_bd y b y1 y2 b1 b3
  obtain ⟨m5, m6⟩ := mul_bd z c z1 z2 c3 c4
  clear f1 f2
  have h' := fun o => h.later ((Below.refl w.heap.size w).alloc (Nat.le_refl _) o)
  have h2' := fun o => h2.later ((Below.refl w.heap.size w).alloc (Nat.le_refl _) o)
  obtain ⟨b0, off, cap, p, q, r, he, rfl, hbl, c0, c1, c2⟩ := h.three rfl
  obtain ⟨b2, off2, cap2, p', q', r', he2, rfl, hbl2, d0, d1, d2⟩ := h2.three rfl
  simp only [List.cons.injEq, and_true] at he he2
  obtain ⟨rfl, rfl, rfl⟩ := he
  obtain ⟨rfl, rfl, rfl⟩ := he2
  go_enter Try.func12, Try.ntmps12
  go_wp2_with fail
  refine (modelTwo _ _ [x, y, z] [a, b, c] _ (h' _) (h2' _)).mono ?_
  rintro e w1 ⟨rfl, rfl⟩
  rw [ht]
  clear h' h2' h h2 ht
  go_wp2_with fail
  refine wp_loop_rounds 4 ?_
  rw [rounds_succ]
  go_wp2
  go_quiet (fail)
  go_wp2
  rw [rounds_succ]
  go_wp2
  go_quiet (fail)
  go_wp2
  rw [rounds_succ]
  go_wp2
  go_quiet (fail)
  go_wp2
  rw [rounds_succ]
  go_wp2
  refine bodyPost_ret (v := intRes 0 (x * a + y * b + z * c)) (by simp [results, Try.results12, go_sem, intRes]) rfl ⟨rfl, ?_⟩
  exact ((below_drawn ((Below.refl w.heap.size w).alloc (Nat.le_refl _) _) _).setCell (by simp) _).setCell (by simp) _

theorem modelDot (v1 v2 : Value) (zs ys : List Int) (w : World) (h : IsInts w v1 zs) (h2 : IsInts w v2 ys) :
    Calls Try.prog 12 #[v1, v2] w fun e w' => e = .returned (dotRes zs ys) ∧ Below w.heap.size w w' := by
  by_cases ht : twoFault zs ys = 0
  · obtain ⟨f1, f2, x, y, z, a, b, c, rfl, rfl⟩ := two_ok ht
    have e : dotRes [x, y, z] [a, b, c] = intRes 0 (x * a + y * b + z * c) := by simp [dotRes, ht, dot3]
    rw [e]
    exact modelDot_ok v1 v2 x y z a b c w h h2 ht
  · have e : dotRes zs ys = intRes (twoFault zs ys) 0 := by simp [dotRes, ht]
    rw [e]
    exact modelDot_code v1 v2 zs ys w h h2 ht

set_option maxHeartbeats 400000 in
theorem eqIntRes (c v : Int) (w : World) :
    Calls Try.prog 10 #[intRes c v, intRes c v] w fun e w' => e = .returned (.bool true) ∧ Below w.heap.size w w' := by
  have h1 : (c != c) = false := by simp
  have h2 : (v != v) = false := by simp
  simp only [intRes]
  go_enter Try.func10, Try.ntmps10
  go_wp2
  go_ret
  exact ⟨rfl, ((Below.refl _ _).alloc (Nat.le_refl _) _).alloc (by simp) _⟩

end Go.Proofs.Ytccocdpgflapoag
