/-
  The law FnScores answers true at every slice of bytes, and writes nothing that was there.
  No condition.
-/
import Derived.Test.YtccocdpgflapoaaDraw4
import Derived.Test.YtccocdpgflapoaaModel1
import Derived.Deep.RegionHeld3
namespace Go.Proofs.Ytccocdpgflapoaa
open Go.RowKit

set_option maxHeartbeats 400000 in
theorem nums3 (b0 off cap b2 off2 cap2 : Nat) (x y z a b c : Int) (w : World) (c0 : w.cell? ⟨b0, off, none⟩ = some (.int .i64 x)) (c1 : w.cell? ⟨b0, off + 1, none⟩ = some (.int .i64 y)) (c2 : w.cell? ⟨b0, off + 2, none⟩ = some (.int .i64 z))
    (d0 : w.cell? ⟨b2, off2, none⟩ = some (.int .i64 a)) (d1 : w.cell? ⟨b2, off2 + 1, none⟩ = some (.int .i64 b)) (d2 : w.cell? ⟨b2, off2 + 2, none⟩ = some (.int .i64 c)) :
    Calls Try.prog 10 #[.slice (some ⟨b0, off, none⟩) 3 cap, .slice (some ⟨b2, off2, none⟩) 3 cap2] w fun e w' => e = .returned (.bool (decide (x = a ∧ y = b ∧ z = c))) ∧ Below w.heap.size w w' := by
  by_cases h0 : x = a
  · by_cases h1 : y = b
    · have e0 : (x != a) = false := by simp [h0]
      have e1 : (y != b) = false := by simp [h1]
      by_cases h2 : z = c
      · have e2 : (z != c) = false := by simp [h2]
        have HD : Hid (decide (x = a ∧ y = b ∧ z = c) = true) := by simp [Hid, h0, h1, h2]
        clear h0 h1 h2
        go_enter Try.func10, Try.ntmps10
        go_wp2
        refine wp_loop_rounds 4 ?_
        rw [rounds_succ]
        go_wp2
        go_quiet (fail)
        go_wp2
        rw [rounds_succ]
        go_wp2
        go_quiet (fail)
        go_wp2
        rw [rounds_succ]
        go_wp2
        go_quiet (fail)
        go_wp2
        rw [rounds_succ]
        go_wp2
        go_ret
        exact ⟨by rw [unhide HD]; rfl, by repeat (first | refine below_drawn ?_ _ | exact Below.refl _ _)⟩
      · have e2 : (z != c) = true := by simp [h2]
        have HD : Hid (decide (x = a ∧ y = b ∧ z = c) = false) := by simp [Hid, h2]
        clear h0 h1 h2
        go_enter Try.func10, Try.ntmps10
        go_wp2
        refine wp_loop_rounds 4 ?_
        rw [rounds_succ]
        go_wp2
        go_quiet (fail)
        go_wp2
        rw [rounds_succ]
        go_wp2
        go_quiet (fail)
        go_wp2
        rw [rounds_succ]
        go_wp2
        go_quiet (fail)
        go_wp2
        go_ret
        exact ⟨by rw [unhide HD]; rfl, by repeat (first | refine below_drawn ?_ _ | exact Below.refl _ _)⟩
    · have e0 : (x != a) = false := by simp [h0]
      have e1 : (y != b) = true := by simp [h1]
      have HD : Hid (decide (x = a ∧ y = b ∧ z = c) = false) := by simp [Hid, h1]
      clear h0 h1
      go_enter Try.func10, Try.ntmps10
      go_wp2
      refine wp_loop_rounds 4 ?_
      rw [rounds_succ]
      go_wp2
      go_quiet (fail)
      go_wp2
      rw [rounds_succ]
      go_wp2
      go_quiet (fail)
      go_wp2
      go_ret
      exact ⟨by rw [unhide HD]; rfl, by repeat (first | refine below_drawn ?_ _ | exact Below.refl _ _)⟩
  · have e0 : (x != a) = true := by simp [h0]
    have HD : Hid (decide (x = a ∧ y = b ∧ z = c) = false) := by simp [Hid, h0]
    clear h0
    go_enter Try.func10, Try.ntmps10
    go_wp2
    refine wp_loop_rounds 4 ?_
    rw [rounds_succ]
    go_wp2
    go_quiet (fail)
    go_wp2
    go_ret
    exact ⟨by rw [unhide HD]; rfl, by repeat (first | refine below_drawn ?_ _ | exact Below.refl _ _)⟩

theorem big_no (ao : Option Addr) (len cap : Nat) (w : World) (hn : len ≤ 1048576) :
    Calls Try.prog 5 #[.slice ao len cap] w fun e w' => e = .returned (.bool false) ∧ w' = w := by
  have hd : decide (1048576 < (len : Int)) = false := by simp; omega
  go_enter Try.func5, Try.ntmps5
  go_wp2
  go_ret
  exact ⟨rfl, rfl⟩

theorem big_yes (ao : Option Addr) (len cap : Nat) (w : World) (hn : 1048576 < len) :
    Calls Try.prog 5 #[.slice ao len cap] w fun e w' => e = .returned (.bool true) ∧ w' = w := by
  have hd : decide (1048576 < (len : Int)) = true := by simp; omega
  go_enter Try.func5, Try.ntmps5
  go_wp2
  go_ret
  exact ⟨rfl, rfl⟩

theorem field0 (x y : Int) (w : World) : (Instr.field 28 (.agg #[.int .i64 x, .int .i64 y]) 0).run Try.prog w = .ok (.int .i64 x) w := by kernel_rfl
theorem field1 (x y : Int) (w : World) : (Instr.field 28 (.agg #[.int .i64 x, .int .i64 y]) 1).run Try.prog w = .ok (.int .i64 y) w := by kernel_rfl

/-- A function that computes: what it answers wherever w1 stands. -/
def Tells (P : Program) (f : Nat) (args : Array Value) (w1 : World) (v : Value) : Prop :=
  ∀ W, Below w1.heap.size w1 W → Calls P f args W fun e w' => e = .returned v ∧ Below W.heap.size W w'

theorem below_step {w1 W W' : World} (h : Below w1.heap.size w1 W) (k : Below W.heap.size W W') : Below w1.heap.size w1 W' := h.trans (k.mono h.size)

/-- Where a vector has a fault all tell its code. -/
def CodeCase (w1 : World) (v1 v2 : Value) : Prop := ∃ k : Int, k ≠ 0 ∧
  Tells Try.prog 7 #[v1, v2] w1 (intRes k 0) ∧ Tells Try.prog 8 #[v1, v2] w1 (intRes k 0) ∧ Tells Try.prog 9 #[v1, v2] w1 (intRes k 0)

/-- Where both are right the score is what the products tell. -/
def RightCase (w1 : World) (v1 v2 : Value) : Prop := ∃ sc daa dbb dab : Int, (0 ≤ sc ∧ sc ≤ 12000000) ∧ (-3000000 ≤ daa ∧ daa ≤ 3000000) ∧ (-3000000 ≤ dbb ∧ dbb ≤ 3000000) ∧ (-3000000 ≤ dab ∧ dab ≤ 3000000) ∧ sc = daa + dbb - 2 * dab ∧
  Tells Try.prog 7 #[v1, v2] w1 (intRes 0 sc) ∧ Tells Try.prog 7 #[v2, v1] w1 (intRes 0 sc) ∧ Tells Try.prog 9 #[v1, v1] w1 (intRes 0 daa) ∧ Tells Try.prog 9 #[v2, v2] w1 (intRes 0 dbb) ∧ Tells Try.prog 9 #[v1, v2] w1 (intRes 0 dab) ∧
  Tells Try.prog 10 #[v1, v2] w1 (.bool (sc == 0)) ∧ Tells Try.prog 11 #[v1] w1 (.int .i64 0)

set_option maxRecDepth 100000 in
set_option maxHeartbeats 8000000 in
theorem lawScores_few (ao : Option Addr) (len cap : Nat) (w : World) (hn : len ≤ 1048576)
    (hd : Hid (Calls Try.prog 6 #[.slice ao len cap] w fun e w1 => ∃ v1 v2, e = .returned (.tuple #[v1, v2]) ∧ Below w.heap.size w w1 ∧ (CodeCase w1 v1 v2 ∨ RightCase w1 v1 v2))) :
    Calls Try.prog 3 #[.slice ao len cap] w fun e w' => e = .returned (.bool true) ∧ Below w.heap.size w w' := by
  go_enter Try.func3, Try.ntmps3
  go_wp2_with fail
  refine (big_no ao len cap w hn).mono ?_
  rintro e w' ⟨rfl, rfl⟩
  go_wp2_with fail
  refine (unhide hd).mono ?_
  rintro e w1 ⟨v1, v2, rfl, hb, hcase⟩
  have HB := hide hb
  clear hd hb
  rcases hcase with ⟨k, hk, t1, t2, t3⟩ | ⟨sc, daa, dbb, dab, ⟨l1, l2⟩, ⟨l3, l4⟩, ⟨l5, l6⟩, ⟨l7, l8⟩, hpoly, t1, t2, t3, t4, t5, t6, t7⟩
  · skip
    have hne : (k != 0) = true := by rw [bne_iff_ne]; exact hk
    have heq : (k == k) = true := by simp
    have hf0 := field0 k 0
    go_wp2_with fail
    refine (t1 w1 (Below.refl _ _)).mono ?_
    rintro e w2 ⟨rfl, hb2⟩
    simp only [intRes]
    have b2 : Below w1.heap.size w1 (w2.alloc (.cells #[.int .i64 k, .int .i64 0] 28)) := hb2.alloc hb2.size _
    have T2 := hide t2
    have T3 := hide t3
    clear hb2 t1 t2 t3
    obtain ⟨k0, k1⟩ := new_cells (w := w2) (T := 28) (x := .int .i64 k) (y := .int .i64 0)
    go_wp2_with fail
    generalize hwa : w2.alloc (.cells #[.int .i64 k, .int .i64 0] 28) = wa at *
    generalize w2.heap.size = s0 at *
    clear hwa k1
    have hs0 := World.block_lt_of_cell? _ _ k0
    go_region_held3 (fun w' => Below w1.heap.size w1 w' ∧ w'.cell? ⟨s0, 0, none⟩ = some (.int .i64 k))
      (first
        | exact ⟨b2.drew, k0⟩
        | (refine ⟨below_step ?_ hb3, cell_keep hb3 ?_⟩ <;> (first | assumption | (go_split_ands; assumption)))
        | go_keep)
      (first
        | (go_at_call 8; refine (unhide T2 _ ?_).mono ?_; (go_split_ands; assumption); rintro e w3 ⟨rfl, hb3⟩; simp only [intRes])
        | (go_at_call 9; refine (unhide T3 _ ?_).mono ?_; (go_split_ands; assumption); rintro e w3 ⟨rfl, hb3⟩; simp only [intRes]))
    go_wp2_with fail
    go_ret
    refine ⟨rfl, below_step (unhide HB) ?_⟩
    first | assumption | (go_split_ands; assumption)
  · skip
    have hpq : (sc == daa + dbb - 2 * dab) = true := by rw [beq_iff_eq]; exact hpoly
    have heq : (sc == sc) = true := by simp
    have hbb : ((sc == 0) == (sc == 0)) = true := by simp
    have hf1 := fun x => field1 0 x
    have T2 := hide t2
    have T3 := hide t3
    have T4 := hide t4
    have T5 := hide t5
    have T6 := hide t6
    have T7 := hide t7
    clear hpoly t2 t3 t4 t5 t6 t7
    go_wp2_with fail
    refine (t1 w1 (Below.refl _ _)).mono ?_
    rintro e w2 ⟨rfl, hb2⟩
    simp only [intRes]
    have b2 : Below w1.heap.size w1 (w2.alloc (.cells #[.int .i64 0, .int .i64 sc] 28)) := hb2.alloc hb2.size _
    clear hb2 t1
    obtain ⟨k0, k1⟩ := new_cells (w := w2) (T := 28) (x := .int .i64 0) (y := .int .i64 sc)
    go_wp2_with fail
    generalize hwa : w2.alloc (.cells #[.int .i64 0, .int .i64 sc] 28) = wa at *
    generalize w2.heap.size = s0 at *
    clear hwa k0
    refine (unhide T3 wa b2).mono ?_
    rintro e w3 ⟨rfl, hb3⟩
    simp only [intRes]
    have b3 := below_step b2 hb3
    replace k1 := cell_keep hb3 k1
    clear b2 hb3
    go_wp2_with fail
    refine (unhide T4 w3 b3).mono ?_
    rintro e w4 ⟨rfl, hb4⟩
    simp only [intRes]
    have b4 := below_step b3 hb4
    replace k1 := cell_keep hb4 k1
    clear b3 hb4
    go_wp2_with fail
    refine (unhide T5 w4 b4).mono ?_
    rintro e w5 ⟨rfl, hb5⟩
    simp only [intRes]
    have b5 := below_step b4 hb5
    replace k1 := cell_keep hb5 k1
    clear b4 hb5
    go_wp2_with fail
    go_region_held3 (fun w' => Below w1.heap.size w1 w' ∧ w'.cell? ⟨s0, 1, none⟩ = some (.int .i64 sc))
      (first
        | exact ⟨b5.drew, k1⟩
        | (refine ⟨below_step ?_ hb6, cell_keep hb6 ?_⟩ <;> (first | assumption | (go_split_ands; assumption)))
        | go_keep)
      (first
        | (go_at_call 7; refine (unhide T2 _ ?_).mono ?_; (go_split_ands; assumption); rintro e w6 ⟨rfl, hb6⟩; simp only [intRes])
        | (go_at_call 10; refine (unhide T6 _ ?_).mono ?_; (go_split_ands; assumption); rintro e w6 ⟨rfl, hb6⟩)
        | (go_at_call 11; refine (unhide T7 _ ?_).mono ?_; (go_split_ands; assumption); rintro e w6 ⟨rfl, hb6⟩))
    go_wp2_with fail
    go_ret
    refine ⟨rfl, below_step (unhide HB) ?_⟩
    first | assumption | (go_split_ands; assumption)

theorem lawScores_many (ao : Option Addr) (len cap : Nat) (w : World) (hn : 1048576 < len) :
    Calls Try.prog 3 #[.slice ao len cap] w fun e w' => e = .returned (.bool true) ∧ Below w.heap.size w w' := by
  go_enter Try.func3, Try.ntmps3
  go_wp2_with fail
  refine (big_yes ao len cap w hn).mono ?_
  rintro e w' ⟨rfl, rfl⟩
  go_wp2_with fail
  go_ret
  exact ⟨rfl, Below.refl _ _⟩

theorem sq_poly (x a : Int) : (x - a) * (x - a) = x * x + a * a - 2 * (x * a) := by
  rw [Int.sub_mul, Int.mul_sub, Int.mul_sub, Int.mul_comm a x]
  omega
theorem sq_comm (x a : Int) : (x - a) * (x - a) = (a - x) * (a - x) := by
  rw [sq_poly, sq_poly, Int.mul_comm a x]
  omega
theorem sq_zero (x a : Int) (h : (x - a) * (x - a) = 0) : x = a := by
  rcases Int.mul_eq_zero.1 h with h | h <;> omega

theorem scoreRes_ok {x y z a b c : Int} (ht : twoFault [x, y, z] [a, b, c] = 0) : scoreRes [x, y, z] [a, b, c] = intRes 0 ((x - a) * (x - a) + (y - b) * (y - b) + (z - c) * (z - c)) := by simp [scoreRes, ht, score3]
theorem dotRes_ok {x y z a b c : Int} (ht : twoFault [x, y, z] [a, b, c] = 0) : dotRes [x, y, z] [a, b, c] = intRes 0 (x * a + y * b + z * c) := by simp [dotRes, ht, dot3]
theorem two_mk {zs ys : List Int} (h1 : vecFault zs = 0) (h2 : vecFault ys = 0) : twoFault zs ys = 0 := by simp [twoFault, h1, h2]

theorem scores_cases (w1 : World) (v1 v2 : Value) (zs ys : List Int) (h1 : IsInts w1 v1 zs) (h2 : IsInts w1 v2 ys) : CodeCase w1 v1 v2 ∨ RightCase w1 v1 v2 := by
  by_cases ht : twoFault zs ys = 0
  · right
    obtain ⟨f1, f2, x, y, z, a, b, c, rfl, rfl⟩ := two_ok ht
    obtain ⟨⟨x1, x2⟩, ⟨y1, y2⟩, ⟨z1, z2⟩⟩ := fault3 f1
    obtain ⟨⟨a1, a2⟩, ⟨b1, b2⟩, ⟨c1, c2⟩⟩ := fault3 f2
    have p1 := sq_bd x a x1 x2 a1 a2
    have p2 := sq_bd y b y1 y2 b1 b2
    have p3 := sq_bd z c z1 z2 c1 c2
    have q1 := mul_bd x x x1 x2 x1 x2
    have q2 := mul_bd y y y1 y2 y1 y2
    have q3 := mul_bd z z z1 z2 z1 z2
    have q4 := mul_bd a a a1 a2 a1 a2
    have q5 := mul_bd b b b1 b2 b1 b2
    have q6 := mul_bd c c c1 c2 c1 c2
    have q7 := mul_bd x a x1 x2 a1 a2
    have q8 := mul_bd y b y1 y2 b1 b2
    have q9 := mul_bd z c z1 z2 c1 c2
    have s1 := sq_poly x a
    have s2 := sq_poly y b
    have s3 := sq_poly z c
    refine ⟨(x - a) * (x - a) + (y - b) * (y - b) + (z - c) * (z - c), x * x + y * y + z * z, a * a + b * b + c * c, x * a + y * b + z * c, by omega, by omega, by omega, by omega, by omega, ?_, ?_, ?_, ?_, ?_, ?_, ?_⟩
    · intro W hW
      rw [← scoreRes_ok ht]
      exact implScore v1 v2 _ _ W (h1.later hW) (h2.later hW)
    · intro W hW
      rw [sq_comm x a, sq_comm y b, sq_comm z c, ← scoreRes_ok (two_mk f2 f1)]
      exact implScore v2 v1 _ _ W (h2.later hW) (h1.later hW)
    · intro W hW
      rw [← dotRes_ok (two_mk f1 f1)]
      exact implDot v1 v1 _ _ W (h1.later hW) (h1.later hW)
    · intro W hW
      rw [← dotRes_ok (two_mk f2 f2)]
      exact implDot v2 v2 _ _ W (h2.later hW) (h2.later hW)
    · intro W hW
      rw [← dotRes_ok ht]
      exact implDot v1 v2 _ _ W (h1.later hW) (h2.later hW)
    · intro W hW
      have e : ((x - a) * (x - a) + (y - b) * (y - b) + (z - c) * (z - c) == 0) = decide (x = a ∧ y = b ∧ z = c) := by
        rw [Bool.eq_iff_iff]
        simp only [beq_iff_eq, decide_eq_true_eq]
        constructor
        · intro h
          exact ⟨sq_zero x a (by omega), sq_zero y b (by omega), sq_zero z c (by omega)⟩
        · rintro ⟨rfl, rfl, rfl⟩
          simp
      rw [e]
      obtain ⟨g0, off, cap, p, q, r, he, rfl, hbl, c0, c1, c2⟩ := (h1.later hW).three rfl
      obtain ⟨g2, off2, cap2, p', q', r', he2, rfl, hbl2, d0, d1, d2⟩ := (h2.later hW).three rfl
      simp only [List.cons.injEq, and_true] at he he2
      obtain ⟨rfl, rfl, rfl⟩ := he
      obtain ⟨rfl, rfl, rfl⟩ := he2
      exact nums3 g0 off cap g2 off2 cap2 x y z a b c W c0 c1 c2 d0 d1 d2
    · intro W hW
      refine (implFault v1 _ W (h1.later hW)).mono ?_
      rintro e w' ⟨rfl, rfl⟩
      exact ⟨by rw [f1], Below.refl _ _⟩
  · left
    have e1 : scoreRes zs ys = intRes (twoFault zs ys) 0 := by simp [scoreRes, ht]
    have e2 : dotRes zs ys = intRes (twoFault zs ys) 0 := by simp [dotRes, ht]
    refine ⟨twoFault zs ys, ht, ?_, ?_, ?_⟩
    · intro W hW
      rw [← e1]
      exact implScore v1 v2 _ _ W (h1.later hW) (h2.later hW)
    · intro W hW
      rw [← e1]
      exact modelScore v1 v2 _ _ W (h1.later hW) (h2.later hW)
    · intro W hW
      rw [← e2]
      exact implDot v1 v2 _ _ W (h1.later hW) (h2.later hW)

theorem lawScores (ao : Option Addr) (len cap : Nat) (w : World) (hc : len ≤ 1048576 → IsCode w.heap.size w (.slice ao len cap)) :
    Calls Try.prog 3 #[.slice ao len cap] w fun e w' => e = .returned (.bool true) ∧ Below w.heap.size w w' := by
  by_cases hn : len ≤ 1048576
  · refine lawScores_few ao len cap w hn ?_
    refine (drawScore ao len cap w (hc hn)).mono ?_
    rintro e w1 ⟨v1, v2, zs, ys, rfl, h1, h2, l1, l2, hb⟩
    exact ⟨v1, v2, rfl, hb, scores_cases w1 v1 v2 zs ys h1 h2⟩
  · exact lawScores_many ao len cap w (by omega)

end Go.Proofs.Ytccocdpgflapoaa
