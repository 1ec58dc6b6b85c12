/-
  The law FnMeans answers true at every slice of bytes, and writes nothing that was there.
  No condition.
-/
import Derived.Test.YtccocdpgflapoaaDraw4
import Derived.Test.YtccocdpgflapoaaMeanModel
import Derived.Test.YtccocdpgflapoaaLw
import Derived.Deep.RegionHeld3
namespace Go.Proofs.Ytccocdpgflapoaa
open Go.RowKit

theorem fieldl0 (c : Int) (ao : Option Addr) (n cap : Nat) (w : World) : (Instr.field 35 (.agg #[.int .i64 c, .slice ao n cap]) 0).run Try.prog w = .ok (.int .i64 c) w := by kernel_rfl
theorem fieldl1 (c : Int) (ao : Option Addr) (n cap : Nat) (w : World) : (Instr.field 35 (.agg #[.int .i64 c, .slice ao n cap]) 1).run Try.prog w = .ok (.slice ao n cap) w := by kernel_rfl

/-- A function that computes a code and a list, wherever w1 stands. -/
def TellsList (P : Program) (f : Nat) (args : Array Value) (w1 : World) (c : Int) (ms : List Int) : Prop :=
  ∀ W, Below w1.heap.size w1 W → Calls P f args W fun e w' => ∃ a cap, e = .returned (.agg #[.int .i64 c, .slice a ms.length cap]) ∧ IsInts w' (.slice a ms.length cap) ms ∧ Below W.heap.size W w'

/-- How far three sums may be from n times their means. -/
def Near (n s m : Int) : Prop := (-1000000 ≤ s ∧ s ≤ 1000000) ∧ (-1000000 ≤ n * m ∧ n * m ≤ 1000000) ∧ -n ≤ 2 * (s - n * m) ∧ 2 * (s - n * m) < n

set_option maxRecDepth 100000 in
set_option maxHeartbeats 8000000 in
theorem lawMeans_few (ao : Option Addr) (len cap : Nat) (w : World) (hn : len ≤ 1048576)
    (hd : Hid (Calls Try.prog 12 #[.slice ao len cap] w fun e w1 => ∃ v1 n, e = .returned (.tuple #[v1, .int .i64 n]) ∧ Below w.heap.size w w1 ∧
      ((∃ k : Int, k ≠ 0 ∧ TellsList Try.prog 13 #[v1, .int .i64 n] w1 k [] ∧ TellsList Try.prog 14 #[v1, .int .i64 n] w1 k []) ∨
       (∃ x y z a b c : Int, (1 ≤ n ∧ n ≤ 1000) ∧ IsInts w1 v1 [x, y, z] ∧ vecFault [a, b, c] = 0 ∧ Near n x a ∧ Near n y b ∧ Near n z c ∧ TellsList Try.prog 13 #[v1, .int .i64 n] w1 0 [a, b, c] ∧ TellsList Try.prog 14 #[v1, .int .i64 n] w1 0 [a, b, c])))) :
    Calls Try.prog 4 #[.slice ao len cap] w fun e w' => e = .returned (.bool true) ∧ Below w.heap.size w w' := by
  go_enter Try.func4, Try.ntmps4
  go_wp2_with fail
  refine (big_no ao len cap w hn).mono ?_
  rintro e w' ⟨rfl, rfl⟩
  go_wp2_with fail
  refine (unhide hd).mono ?_
  rintro e w1 ⟨v1, n, rfl, hb, hcase⟩
  have HB := hide hb
  clear hd hb
  rcases hcase with ⟨k, hk, t1, t2⟩ | ⟨x, y, z, a, b, c, ⟨n1, n2⟩, hi, hv, ⟨⟨x1, x2⟩, ⟨x3, x4⟩, x5, x6⟩, ⟨⟨y1, y2⟩, ⟨y3, y4⟩, y5, y6⟩, ⟨⟨z1, z2⟩, ⟨z3, z4⟩, z5, z6⟩, t1, t2⟩
  · have hne : (k != 0) = true := by rw [bne_iff_ne]; exact hk
    have heq : (k == k) = true := by simp
    have hf0 := fieldl0 k
    go_wp2_with fail
    refine (t1 w1 (Below.refl _ _)).mono ?_
    rintro e w2 ⟨a1, c1, rfl, -, hb2⟩
    have b2 : Below w1.heap.size w1 (w2.alloc (.cells #[.int .i64 k, .slice a1 0 c1] 35)) := hb2.alloc hb2.size _
    have T2 := hide t2
    clear hb2 t1 t2
    obtain ⟨k0, k1⟩ := new_cells (w := w2) (T := 35) (x := .int .i64 k) (y := .slice a1 0 c1)
    simp only [List.length_nil]
    go_wp2_with fail
    generalize hwa : w2.alloc (.cells #[.int .i64 k, .slice a1 0 c1] 35) = wa at *
    generalize w2.heap.size = s0 at *
    clear hwa k1
    go_region_held3 (fun w' => Below w1.heap.size w1 w' ∧ w'.cell? ⟨s0, 0, none⟩ = some (.int .i64 k))
      (first
        | exact ⟨b2.drew, k0⟩
        | (refine ⟨below_step ?_ hb3, cell_keep hb3 ?_⟩ <;> (first | assumption | (go_split_ands; assumption)))
        | go_keep)
      (first
        | (go_at_call 14; refine (unhide T2 _ ?_).mono ?_; (go_split_ands; assumption); rintro e w3 ⟨a2, c2, rfl, -, hb3⟩; simp only [List.length_nil]))
    go_wp2_with fail
    go_ret
    refine ⟨rfl, below_step (unhide HB) ?_⟩
    first | assumption | (go_split_ands; assumption)
  · go_wp2_with fail
    refine (t1 w1 (Below.refl _ _)).mono ?_
    rintro e w2 ⟨a1, c1, rfl, hi1, hb2⟩
    obtain ⟨g, off, cp, p, q, r, he, hv1, hbl, c0, c1', c2⟩ := (hi.later hb2).three rfl
    obtain ⟨g2, off2, cp2, p', q', r', he2, hv2, hbl2, d0, d1, d2⟩ := hi1.three rfl
    simp only [List.cons.injEq, and_true] at he he2
    obtain ⟨rfl, rfl, rfl⟩ := he
    obtain ⟨rfl, rfl, rfl⟩ := he2
    subst hv1
    rw [hv2] at hi1 ⊢
    have hI := hide (hi.later hb2)
    have hJ := hide hi1
    have b2 : Below w1.heap.size w1 (w2.alloc (.cells #[.int .i64 0, .slice (some ⟨g2, off2, none⟩) 3 cp2] 35)) := hb2.alloc hb2.size _
    have nb : Below w2.heap.size w2 (w2.alloc (.cells #[.int .i64 0, .slice (some ⟨g2, off2, none⟩) 3 cp2] 35)) := (Below.refl _ _).alloc (Nat.le_refl _) _
    obtain ⟨k0, k1⟩ := new_cells (w := w2) (T := 35) (x := .int .i64 0) (y := .slice (some ⟨g2, off2, none⟩) 3 cp2)
    replace c0 := cell_keep nb c0
    replace c1' := cell_keep nb c1'
    replace c2 := cell_keep nb c2
    replace d0 := cell_keep nb d0
    replace d1 := cell_keep nb d1
    replace d2 := cell_keep nb d2
    have HJ := hide ((unhide hJ).later nb)
    have T2 := hide t2
    have HV := hide hv
    have e1 : decide (n ≤ 2 * (x - n * a)) = false := by simp; omega
    have e2 : decide (n ≤ 2 * (y - n * b)) = false := by simp; omega
    have e3 : decide (n ≤ 2 * (z - n * c)) = false := by simp; omega
    clear hb2 t1 t2 hi hi1 hv hv2 nb hI hJ hbl hbl2
    go_wp2_with fail
    generalize hwa : w2.alloc (.cells #[.int .i64 0, .slice (some ⟨g2, off2, none⟩) 3 cp2] 35) = wa at *
    generalize w2.heap.size = s0 at *
    clear hwa
    refine wp_loop_rounds 4 ?_
    rw [rounds_succ]
    go_wp2
    go_quiet (fail)
    go_wp2
    rw [rounds_succ]
    go_wp2
    go_quiet (fail)
    go_wp2
    rw [rounds_succ]
    go_wp2
    go_quiet (fail)
    go_wp2
    rw [rounds_succ]
    go_wp2
    have b3 : Below wa.heap.size wa (wa.drewN 0) := below_drawn (Below.refl _ _) _
    have B2 := hide b2
    have hf1 := fieldl1 0
    clear b2 b3 c0 c1' c2 k0
    go_region_held3 (fun w' => Below wa.heap.size wa w' ∧ w'.cell? ⟨s0, 1, none⟩ = some (.slice (some ⟨g2, off2, none⟩) 3 cp2))
      (first
        | exact ⟨(below_drawn (Below.refl _ _) _).drew, k1⟩
        | (refine ⟨below_step ?_ hb5, cell_keep hb5 ?_⟩ <;> (first | assumption | (go_split_ands; assumption)))
        | (refine ⟨below_step ?_ hb4, cell_keep hb4 ?_⟩ <;> (first | assumption | (go_split_ands; assumption)))
        | go_keep)
      (first
        | (go_at_call 11; refine (implFault _ [a, b, c] _ ((unhide HJ).later ?_)).mono ?_; (go_split_ands; assumption); rintro e w3 ⟨rfl, rfl⟩; rw [unhide HV])
        | (go_at_call 14; refine (unhide T2 _ (below_step (unhide B2) ?_)).mono ?_; (go_split_ands; assumption); rintro e w4 ⟨a4, c4, rfl, hi4, hb4⟩; (obtain ⟨g3, off3, cp3, p4, q4, r4, he4, hv4, -, f0, f1, f2⟩ := hi4.three rfl); (simp only [List.cons.injEq, and_true] at he4); (obtain ⟨rfl, rfl, rfl⟩ := he4); rw [hv4]; clear hi4 hv4)
        | (go_at_call 10; refine (nums_same g2 off2 cp2 g3 off3 cp3 a b c _ (cell_keep ?_ d0) (cell_keep ?_ d1) (cell_keep ?_ d2) f0 f1 f2).mono ?_; (go_split_ands; assumption); (go_split_ands; assumption); (go_split_ands; assumption); rintro e w5 ⟨rfl, hb5⟩))
    go_wp2_with fail
    go_ret
    refine ⟨rfl, below_step (unhide HB) (below_step (unhide B2) ?_)⟩
    first | assumption | (go_split_ands; assumption)

theorem lawMeans_many (ao : Option Addr) (len cap : Nat) (w : World) (hn : 1048576 < len) :
    Calls Try.prog 4 #[.slice ao len cap] w fun e w' => e = .returned (.bool true) ∧ Below w.heap.size w w' := by
  go_enter Try.func4, Try.ntmps4
  go_wp2_with fail
  refine (big_yes ao len cap w hn).mono ?_
  rintro e w' ⟨rfl, rfl⟩
  go_wp2_with fail
  go_ret
  exact ⟨rfl, Below.refl _ _⟩

theorem near_mean (s n : Int) (h1 : 1 ≤ n) (h2 : n ≤ 1000) (h3 : -1000 * n ≤ s) (h4 : s ≤ 1000 * n) : Near n s (mean s n) := by
  have hm := mean_bd s n h1 h3 h4
  have e1 := Int.ediv_mul_add_emod (2 * s + n) (2 * n)
  have e2 := Int.emod_nonneg (2 * s + n) (show 2 * n ≠ 0 by omega)
  have e3 := Int.emod_lt_of_pos (2 * s + n) (show 0 < 2 * n by omega)
  have e4 : (2 * s + n) / (2 * n) * (2 * n) = 2 * (n * mean s n) := by
    show mean s n * (2 * n) = _
    rw [Int.mul_comm (mean s n), Int.mul_assoc]
  rw [e4] at e1
  have b1 : n * mean s n ≤ n * 1000 := Int.mul_le_mul_of_nonneg_left hm.2 (by omega)
  have b2 : n * (-1000) ≤ n * mean s n := Int.mul_le_mul_of_nonneg_left hm.1 (by omega)
  exact ⟨by omega, by omega, by omega, by omega⟩

theorem tellsList_of {f : Nat} {v : Value} {n : Int} {w1 : World} {zs : List Int} (h : ∀ W, Below w1.heap.size w1 W → Calls Try.prog f #[v, .int .i64 n] W fun e w' => ∃ r, e = .returned (intsRes (meanFault zs n) r) ∧
      w'.ownsRow W.heap.size 2 1 r (meanList zs n).length ((meanList zs n).map (Value.int .i64)) ∧ Below W.heap.size W w') : TellsList Try.prog f #[v, .int .i64 n] w1 (meanFault zs n) (meanList zs n) := by
  intro W hW
  refine (h W hW).mono ?_
  rintro e w' ⟨r, rfl, ho, hb⟩
  have hi := isInts_row meanList_bd ho
  obtain ⟨ao, cap, rfl, _⟩ := id hi
  exact ⟨ao, cap, rfl, hi, hb⟩

theorem lawMeans (ao : Option Addr) (len cap : Nat) (w : World) (hc : len ≤ 1048576 → IsCode w.heap.size w (.slice ao len cap)) :
    Calls Try.prog 4 #[.slice ao len cap] w fun e w' => e = .returned (.bool true) ∧ Below w.heap.size w w' := by
  by_cases hn : len ≤ 1048576
  · refine lawMeans_few ao len cap w hn ?_
    refine (drawMean ao len cap w (hc hn)).mono ?_
    rintro e w1 ⟨v, zs, n, rfl, h1, l1, l2, hb⟩
    refine ⟨v, n, rfl, hb, ?_⟩
    have t1 := tellsList_of (f := 13) (v := v) (n := n) (w1 := w1) (zs := zs) (fun W hW => implMean v zs n W (h1.later hW))
    have t2 := tellsList_of (f := 14) (v := v) (n := n) (w1 := w1) (zs := zs) (fun W hW => modelMean v zs n W (h1.later hW))
    by_cases hf : meanFault zs n = 0
    · right
      obtain ⟨⟨n1, n2⟩, x, y, z, rfl, hx, hy, hz⟩ := meanFault_zero hf
      have e : meanList [x, y, z] n = [mean x n, mean y n, mean z n] := by simp [meanList, hf]
      rw [hf, e] at t1 t2
      have b1 := mean_bd x n n1 hx.1 hx.2
      have b2 := mean_bd y n n1 hy.1 hy.2
      have b3 := mean_bd z n n1 hz.1 hz.2
      refine ⟨x, y, z, mean x n, mean y n, mean z n, ⟨n1, n2⟩, h1, ?_, near_mean x n n1 n2 hx.1 hx.2, near_mean y n n1 n2 hy.1 hy.2, near_mean z n n1 n2 hz.1 hz.2, t1, t2⟩
      refine vecFault_ok rfl (fun j hj => ?_)
      rcases (show j = 0 ∨ j = 1 ∨ j = 2 by omega) with rfl | rfl | rfl
      · simp [partB, b1.1, b1.2]
      · simp [partB, b2.1, b2.2]
      · simp [partB, b3.1, b3.2]
    · left
      have e : meanList zs n = [] := by simp [meanList, hf]
      rw [e] at t1 t2
      exact ⟨meanFault zs n, hf, t1, t2⟩
  · exact lawMeans_many ao len cap w (by omega)

end Go.Proofs.Ytccocdpgflapoaa
