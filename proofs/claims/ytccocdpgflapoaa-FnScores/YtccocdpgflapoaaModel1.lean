/-
  ScoreOf and DotOf of the model tell the same as those of the program.
  No condition.
-/
import Derived.Test.YtccocdpgflapoaaScore
namespace Go.Proofs.Ytccocdpgflapoaa
open Go.RowKit

/-- The fault of the first, then of the second. -/
def twoFault (zs ys : List Int) : Int := if vecFault zs = 0 then vecFault ys else vecFault zs

set_option maxHeartbeats 400000 in
theorem modelTwo (v1 v2 : Value) (zs ys : List Int) (w : World) (h : IsInts w v1 zs) (h2 : IsInts w v2 ys) :
    Calls Try.prog 17 #[v1, v2] w fun e w' => e = .returned (.int .i64 (twoFault zs ys)) ∧ w' = w := by
  by_cases hf : vecFault zs = 0
  · have HV : Hid (twoFault zs ys = vecFault ys) := by simp [Hid, twoFault, hf]
    go_enter Try.func17, Try.ntmps17
    go_wp2_with fail
    refine (modelFault v1 zs _ h).mono ?_
    rintro e w' ⟨rfl, rfl⟩
    rw [hf]
    clear hf
    go_wp2_with fail
    refine (modelFault v2 ys _ h2).mono ?_
    rintro e w' ⟨rfl, rfl⟩
    go_wp2_with fail
    go_ret
    exact ⟨by rw [HV.out]; rfl, rfl⟩
  · have HV : Hid (twoFault zs ys = vecFault zs) := by simp [Hid, twoFault, hf]
    have hne : (vecFault zs != 0) = true := by rw [bne_iff_ne]; exact hf
    go_enter Try.func17, Try.ntmps17
    go_wp2_with fail
    refine (modelFault v1 zs _ h).mono ?_
    rintro e w' ⟨rfl, rfl⟩
    go_wp2_with fail
    go_ret
    exact ⟨by rw [HV.out]; rfl, rfl⟩

set_option maxHeartbeats 1000000 in
theorem modelSum (b0 off cap b2 off2 cap2 : Nat) (x y z a b c : Int) (w : World) (c0 : w.cell? ⟨b0, off, none⟩ = some (.int .i64 x)) (c1 : w.cell? ⟨b0, off + 1, none⟩ = some (.int .i64 y)) (c2 : w.cell? ⟨b0, off + 2, none⟩ = some (.int .i64 z))
    (d0 : w.cell? ⟨b2, off2, none⟩ = some (.int .i64 a)) (d1 : w.cell? ⟨b2, off2 + 1, none⟩ = some (.int .i64 b)) (d2 : w.cell? ⟨b2, off2 + 2, none⟩ = some (.int .i64 c)) (hf1 : vecFault [x, y, z] = 0) (hf : vecFault [a, b, c] = 0) :
    Calls Try.prog 18 #[.slice (some ⟨b0, off, none⟩) 3 cap, .slice (some ⟨b2, off2, none⟩) 3 cap2] w fun e w' => e = .returned (.int .i64 ((x - a) * (x - a) + (y - b) * (y - b) + (z - c) * (z - c))) ∧ Below w.heap.size w w' := by
  obtain ⟨⟨x1, x2⟩, ⟨y1, y2⟩, ⟨z1, z2⟩⟩ := fault3 hf1
  obtain ⟨⟨a1, a2⟩, ⟨b1, b3⟩, ⟨c3, c4⟩⟩ := fault3 hf
  obtain ⟨m1, m2⟩ := sq_bd x a x1 x2 a1 a2
  obtain ⟨m3, m4⟩ := sq_bd y b y1 y2 b1 b3
  obtain ⟨m5, m6⟩ := sq_bd z c z1 z2 c3 c4
  clear hf hf1
  go_enter Try.func18, Try.ntmps18
  go_wp2_with fail
  refine wp_loop_rounds 4 ?_
  rw [rounds_succ]
  go_wp2
  go_quiet (fail)
  go_wp2
  rw [rounds_succ]
  go_wp2
  go_quiet (fail)
  go_wp2
  rw [rounds_succ]
  go_wp2
  go_quiet (fail)
  go_wp2
  rw [rounds_succ]
  go_wp2
  go_ret
  exact ⟨rfl, below_drawn (Below.refl _ _) _⟩

def score3 (zs ys : List Int) : Int := (zs.getD 0 0 - ys.getD 0 0) * (zs.getD 0 0 - ys.getD 0 0) + (zs.getD 1 0 - ys.getD 1 0) * (zs.getD 1 0 - ys.getD 1 0) + (zs.getD 2 0 - ys.getD 2 0) * (zs.getD 2 0 - ys.getD 2 0)
def dot3 (zs ys : List Int) : Int := zs.getD 0 0 * ys.getD 0 0 + zs.getD 1 0 * ys.getD 1 0 + zs.getD 2 0 * ys.getD 2 0
def scoreRes (zs ys : List Int) : Value := if twoFault zs ys = 0 then intRes 0 (score3 zs ys) else intRes (twoFault zs ys) 0
def dotRes (zs ys : List Int) : Value := if twoFault zs ys = 0 then intRes 0 (dot3 zs ys) else intRes (twoFault zs ys) 0

theorem two_ok {zs ys : List Int} (h : twoFault zs ys = 0) : vecFault zs = 0 ∧ vecFault ys = 0 ∧ ∃ x y z a b c, zs = [x, y, z] ∧ ys = [a, b, c] := by
  have h1 : vecFault zs = 0 := by
    unfold twoFault at h
    split at h <;> simp_all
  have h2 : vecFault ys = 0 := by simpa [twoFault, h1] using h
  refine ⟨h1, h2, ?_⟩
  have l1 := (vecFault_zero h1).1
  have l2 := (vecFault_zero h2).1
  match zs, l1, ys, l2 with
  | [x, y, z], _, [a, b, c], _ => exact ⟨x, y, z, a, b, c, rfl, rfl⟩

/-- ScoreOf of the program. -/
theorem implScore (v1 v2 : Value) (zs ys : List Int) (w : World) (h : IsInts w v1 zs) (h2 : IsInts w v2 ys) :
    Calls Try.prog 7 #[v1, v2] w fun e w' => e = .returned (scoreRes zs ys) ∧ Below w.heap.size w w' := by
  by_cases ht : twoFault zs ys = 0
  · obtain ⟨f1, f2, x, y, z, a, b, c, rfl, rfl⟩ := two_ok ht
    have e : scoreRes [x, y, z] [a, b, c] = intRes 0 ((x - a) * (x - a) + (y - b) * (y - b) + (z - c) * (z - c)) := by simp [scoreRes, ht, score3]
    rw [e]
    exact implScore_ok v1 v2 x y z a b c w h h2 f1 f2
  · have e : scoreRes zs ys = intRes (twoFault zs ys) 0 := by simp [scoreRes, ht]
    rw [e]
    refine implScore_code v1 v2 (twoFault zs ys) w (fun W hW => ?_) ht
    by_cases hf : vecFault zs = 0
    · have l1 := (vecFault_zero hf).1
      have e2 : twoFault zs ys = vecFault ys := by simp [twoFault, hf]
      rw [e2] at ht ⊢
      match zs, l1, hf with
      | [x, y, z], _, hf => exact pairOf_bad2 v1 v2 x y z ys W (h.later hW) (h2.later hW) hf ht
    · have e2 : twoFault zs ys = vecFault zs := by simp [twoFault, hf]
      rw [e2]
      exact pairOf_bad1 v1 v2 zs W (h.later hW) hf

/-- DotOf of the program. -/
theorem implDot (v1 v2 : Value) (zs ys : List Int) (w : World) (h : IsInts w v1 zs) (h2 : IsInts w v2 ys) :
    Calls Try.prog 9 #[v1, v2] w fun e w' => e = .returned (dotRes zs ys) ∧ Below w.heap.size w w' := by
  by_cases ht : twoFault zs ys = 0
  · obtain ⟨f1, f2, x, y, z, a, b, c, rfl, rfl⟩ := two_ok ht
    have e : dotRes [x, y, z] [a, b, c] = intRes 0 (x * a + y * b + z * c) := by simp [dotRes, ht, dot3]
    rw [e]
    exact implDot_ok v1 v2 x y z a b c w h h2 f1 f2
  · have e : dotRes zs ys = intRes (twoFault zs ys) 0 := by simp [dotRes, ht]
    rw [e]
    refine implDot_code v1 v2 (twoFault zs ys) w (fun W hW => ?_) ht
    by_cases hf : vecFault zs = 0
    · have l1 := (vecFault_zero hf).1
      have e2 : twoFault zs ys = vecFault ys := by simp [twoFault, hf]
      rw [e2] at ht ⊢
      match zs, l1, hf with
      | [x, y, z], _, hf => exact pairOf_bad2 v1 v2 x y z ys W (h.later hW) (h2.later hW) hf ht
    · have e2 : twoFault zs ys = vecFault zs := by simp [twoFault, hf]
      rw [e2]
      exact pairOf_bad1 v1 v2 zs W (h.later hW) hf

set_option maxHeartbeats 400000 in
theorem modelScore_code (v1 v2 : Value) (zs ys : List Int) (w : World) (h : IsInts w v1 zs) (h2 : IsInts w v2 ys) (ht : twoFault zs ys ≠ 0) :
    Calls Try.prog 8 #[v1, v2] w fun e w' => e = .returned (intRes (twoFault zs ys) 0) ∧ Below w.heap.size w w' := by
  have hne : (twoFault zs ys != 0) = true := by rw [bne_iff_ne]; exact ht
  go_enter Try.func8, Try.ntmps8
  go_wp2_with fail
  refine (modelTwo v1 v2 zs ys _ (h.later ((Below.refl _ _).alloc (Nat.le_refl _) _)) (h2.later ((Below.refl _ _).alloc (Nat.le_refl _) _))).mono ?_
  rintro e w1 ⟨rfl, rfl⟩
  go_wp2_with fail
  refine bodyPost_ret (v := intRes (twoFault zs ys) 0) (by simp [results, Try.results8, go_sem, intRes]) rfl ⟨rfl, ?_⟩
  exact (Below.refl _ _).alloc (Nat.le_refl _) _

set_option maxHeartbeats 400000 in
theorem modelScore_ok (v1 v2 : Value) (x y z a b c : Int) (w : World) (h : IsInts w v1 [x, y, z]) (h2 : IsInts w v2 [a, b, c]) (ht : twoFault [x, y, z] [a, b, c] = 0) :
    Calls Try.prog 8 #[v1, v2] w fun e w' => e = .returned (intRes 0 ((x - a) * (x - a) + (y - b) * (y - b) + (z - c) * (z - c))) ∧ Below w.heap.size w w' := by
  obtain ⟨f1, f2, _⟩ := two_ok ht
  have h' := fun o => h.later ((Below.refl w.heap.size w).alloc (Nat.le_refl _) o)
  have h2' := fun o => h2.later ((Below.refl w.heap.size w).alloc (Nat.le_refl _) o)
  go_enter Try.func8, Try.ntmps8
  go_wp2_with fail
  refine (modelTwo v1 v2 [x, y, z] [a, b, c] _ (h' _) (h2' _)).mono ?_
  rintro e w1 ⟨rfl, rfl⟩
  rw [ht]
  obtain ⟨b0, off, cap, p, q, r, he, rfl, hbl, c0, c1, c2⟩ := (h' (.cells #[.int .i64 0, .int .i64 0] 28)).three rfl
  obtain ⟨b2, off2, cap2, p', q', r', he2, rfl, hbl2, d0, d1, d2⟩ := (h2' (.cells #[.int .i64 0, .int .i64 0] 28)).three rfl
  simp only [List.cons.injEq, and_true] at he he2
  obtain ⟨rfl, rfl, rfl⟩ := he
  obtain ⟨rfl, rfl, rfl⟩ := he2
  clear h' h2' h h2 ht
  go_wp2_with fail
  refine (modelSum b0 off cap b2 off2 cap2 x y z a b c _ c0 c1 c2 d0 d1 d2 f1 f2).mono ?_
  rintro e w1 ⟨rfl, hb⟩
  have p0 : w1.cell? ⟨w.heap.size, 0, none⟩ = some (.int .i64 0) := (hb.cell (p := ⟨w.heap.size, 0, none⟩) (by simp)).trans (by simp [go_sem])
  have p1 : w1.cell? ⟨w.heap.size, 1, none⟩ = some (.int .i64 0) := (hb.cell (p := ⟨w.heap.size, 1, none⟩) (by simp)).trans (by simp [go_sem])
  have p2 : ∀ o, w1.frozen? ⟨w.heap.size, o, none⟩ = false := fun o => (hb.frozen (p := ⟨w.heap.size, o, none⟩) (by simp)).trans (by simp [go_sem])
  have HB := hide (((Below.refl w.heap.size w).alloc (Nat.le_refl _) _).trans (hb.mono (by simp)))
  clear hb c0 c1 c2 d0 d1 d2 hbl hbl2
  go_wp2_with fail
  refine bodyPost_ret (v := intRes 0 ((x - a) * (x - a) + (y - b) * (y - b) + (z - c) * (z - c))) (by simp [results, Try.results8, go_sem, intRes, p0, p1]) rfl ⟨rfl, ?_⟩
  exact ((unhide HB).setCell (by simp) _).setCell (by simp) _

theorem modelScore (v1 v2 : Value) (zs ys : List Int) (w : World) (h : IsInts w v1 zs) (h2 : IsInts w v2 ys) :
    Calls Try.prog 8 #[v1, v2] w fun e w' => e = .returned (scoreRes zs ys) ∧ Below w.heap.size w w' := by
  by_cases ht : twoFault zs ys = 0
  · obtain ⟨f1, f2, x, y, z, a, b, c, rfl, rfl⟩ := two_ok ht
    have e : scoreRes [x, y, z] [a, b, c] = intRes 0 ((x - a) * (x - a) + (y - b) * (y - b) + (z - c) * (z - c)) := by simp [scoreRes, ht, score3]
    rw [e]
    exact modelScore_ok v1 v2 x y z a b c w h h2 ht
  · have e : scoreRes zs ys = intRes (twoFault zs ys) 0 := by simp [scoreRes, ht]
    rw [e]
    exact modelScore_code v1 v2 zs ys w h h2 ht

end Go.Proofs.Ytccocdpgflapoaa
