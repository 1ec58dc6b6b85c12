/-
  Texts of this proof in one: VecOf, ImplDeed, ImplPack, ImplPackAll, LogFew, LawPackAll.
  Their conditions stand in their theorems.
-/
import Derived.Test.YtipomhpimmnchaaChecked
import Derived.Test.YtipomhpimmnchaaKq01
import Derived.Test.YtipomhpimmnchaaKq02
import Derived.Test.YtipomhpimmnchaaKq04
import Derived.WalkSmall
import Derived.Outline
import Derived.Test.YtipomhpimmnchaaKq05
import Derived.Deep.RegionHeld3

namespace Go.Proofs.Ytipomhpimmnchaa
open Go.RowKit

theorem bcell {W w1 : World} (hb : Below W.heap.size W w1) : (∀ b o, b < W.heap.size → w1.cell? ⟨b, o, none⟩ = W.cell? ⟨b, o, none⟩) ∧ (∀ b o, b < W.heap.size → w1.frozen? ⟨b, o, none⟩ = W.frozen? ⟨b, o, none⟩) :=
  ⟨fun b o h => hb.cell (p := ⟨b, o, none⟩) h, fun b o h => hb.frozen (p := ⟨b, o, none⟩) h⟩

/-- Two blocks of three cells that were laid ahead of a call are there behind it, and may be written. -/
theorem two_kept {w w1 : World} {T : TypeId} {x0 x1 x2 y0 y1 y2 : Value} (hb : Below ((w.alloc (.cells #[x0, x1, x2] T)).alloc (.cells #[y0, y1, y2] T)).heap.size ((w.alloc (.cells #[x0, x1, x2] T)).alloc (.cells #[y0, y1, y2] T)) w1) :
    (w1.cell? ⟨w.heap.size, 0, none⟩ = some x0 ∧ w1.cell? ⟨w.heap.size, 1, none⟩ = some x1 ∧ w1.cell? ⟨w.heap.size, 2, none⟩ = some x2) ∧
    (w1.cell? ⟨w.heap.size + 1, 0, none⟩ = some y0 ∧ w1.cell? ⟨w.heap.size + 1, 1, none⟩ = some y1 ∧ w1.cell? ⟨w.heap.size + 1, 2, none⟩ = some y2) ∧
    (∀ o, w1.frozen? ⟨w.heap.size, o, none⟩ = false) ∧ (∀ o, w1.frozen? ⟨w.heap.size + 1, o, none⟩ = false) := by
  refine ⟨⟨?_, ?_, ?_⟩, ⟨?_, ?_, ?_⟩, fun o => ?_, fun o => ?_⟩
  all_goals first | rw [hb.cell (by simp [World.size_alloc]; try omega)] | rw [hb.frozen (by simp [World.size_alloc]; try omega)]
  all_goals simp [go_sem]

/-- Three numbers as an array. -/
def arr3 (x y z : Int) : Value := .agg #[.int .i64 x, .int .i64 y, .int .i64 z]

theorem IsInts.three {w : World} {v : Value} {zs : List Int} (h : IsInts w v zs) (h3 : zs.length = 3) :
    ∃ b off cap x y z, zs = [x, y, z] ∧ v = .slice (some ⟨b, off, none⟩) 3 cap ∧ b < w.heap.size ∧ w.cell? ⟨b, off, none⟩ = some (.int .i64 x) ∧ w.cell? ⟨b, off + 1, none⟩ = some (.int .i64 y) ∧ w.cell? ⟨b, off + 2, none⟩ = some (.int .i64 z) := by
  obtain ⟨ao, cap, rfl, hwf, hc⟩ := h
  match zs, h3 with
  | [x, y, z], _ =>
    obtain ⟨b, off, rfl, hc1⟩ := hc (by simp)
    have c0 := hc1 0 (by simp)
    have c1 := hc1 1 (by simp)
    have c2 := hc1 2 (by simp)
    exact ⟨b, off, cap, x, y, z, rfl, rfl, World.block_lt_of_cell? _ _ c0, by simpa using c0, by simpa using c1, by simpa using c2⟩

set_option maxHeartbeats 400000 in
theorem vectorOf_bad (v : Value) (zs : List Int) (w : World) (h : IsInts w v zs) (hf : vecFault zs ≠ 0) :
    Calls Try.prog 99 #[v] w fun e w' => e = .returned (.tuple #[arr3 0 0 0, .int .i64 (vecFault zs)]) ∧ Below w.heap.size w w' := by
  go_enter Try.func99, Try.ntmps99
  go_wp2_with fail
  refine (implFault v zs _ (h.later (((Below.refl _ _).alloc (Nat.le_refl _) _).alloc (by simp) _))).mono ?_
  rintro e w' ⟨rfl, rfl⟩
  have hne : (vecFault zs != 0) = true := by rw [bne_iff_ne]; exact hf
  go_wp2_with fail
  refine bodyPost_ret (v := .tuple #[arr3 0 0 0, .int .i64 (vecFault zs)]) (by simp [results, Try.results99, go_sem, arr3]) rfl ⟨rfl, ?_⟩
  exact ((Below.refl _ _).alloc (Nat.le_refl _) _).alloc (by simp) _

set_option maxHeartbeats 1000000 in
theorem vectorOf_three (b off cap : Nat) (x y z : Int) (w : World) (hbl : b < w.heap.size) (c0 : w.cell? ⟨b, off, none⟩ = some (.int .i64 x)) (c1 : w.cell? ⟨b, off + 1, none⟩ = some (.int .i64 y)) (c2 : w.cell? ⟨b, off + 2, none⟩ = some (.int .i64 z))
    (h : IsInts w (.slice (some ⟨b, off, none⟩) 3 cap) [x, y, z]) (hf : vecFault [x, y, z] = 0) :
    Calls Try.prog 99 #[.slice (some ⟨b, off, none⟩) 3 cap] w fun e w' => e = .returned (.tuple #[arr3 x y z, .int .i64 0]) ∧ Below w.heap.size w w' := by
  go_enter Try.func99, Try.ntmps99
  go_wp2_with fail
  refine (implFault _ [x, y, z] _ (h.later (((Below.refl _ _).alloc (Nat.le_refl _) _).alloc (by simp) _))).mono ?_
  rintro e w' ⟨rfl, rfl⟩
  rw [hf]
  clear h hf
  go_wp2_with fail
  refine wp_loop_rounds 4 ?_
  rw [rounds_succ]
  go_wp2
  rw [rounds_succ]
  go_wp2
  rw [rounds_succ]
  go_wp2
  rw [rounds_succ]
  go_wp2
  refine bodyPost_ret (v := .tuple #[arr3 x y z, .int .i64 0]) (by simp [results, Try.results99, go_sem, arr3]) rfl ⟨rfl, ?_⟩
  exact ((Below.refl _ _).alloc (Nat.le_refl _) _).alloc (by simp) _

theorem vectorOf_ok (v : Value) (x y z : Int) (w : World) (h : IsInts w v [x, y, z]) (hf : vecFault [x, y, z] = 0) :
    Calls Try.prog 99 #[v] w fun e w' => e = .returned (.tuple #[arr3 x y z, .int .i64 0]) ∧ Below w.heap.size w w' := by
  obtain ⟨b, off, cap, x', y', z', he, rfl, hbl, c0, c1, c2⟩ := h.three rfl
  simp only [List.cons.injEq, and_true] at he
  obtain ⟨rfl, rfl, rfl⟩ := he
  exact vectorOf_three b off cap x y z w hbl c0 c1 c2 h hf

end Go.Proofs.Ytipomhpimmnchaa

namespace Go.Proofs.Ytipomhpimmnchaa
open Go.RowKit

/-- A put of three parts, and a drop, as deeds. -/
def putV (x y z : Int) : Value := .iface 123 (.agg #[.int .i64 x, .int .i64 y, .int .i64 z])
def dropV : Value := .iface 119 (.agg #[])
def deedV (k : Int) (zs : List Int) : Value := if k = 1 then putV (zs.getD 0 0) (zs.getD 1 0) (zs.getD 2 0) else dropV
def deedRes (k i : Int) (zs : List Int) (s q : Int) : Value := if writeFault k i zs s q = 0 then deedV k zs else .nilIface

def Bds (i s q : Int) : Prop := (1 ≤ i ∧ i ≤ 999) ∧ (1 ≤ s ∧ s ≤ 9) ∧ 1 ≤ q ∧ q ≤ 999
theorem bound_yes {i s q : Int} (h : Bds i s q) : boundB i s q = true := by
  obtain ⟨⟨a, b⟩, ⟨c, d⟩, e, f⟩ := h
  simp [boundB, a, b, c, d, e, f]
theorem bound_no {i s q : Int} (h : ¬ Bds i s q) : boundB i s q = false := by
  rw [Bool.eq_false_iff]
  intro hb
  simp only [boundB, Bool.and_eq_true, decide_eq_true_eq] at hb
  exact h ⟨hb.1, hb.2.1, hb.2.2⟩
theorem fault_out {k i s q : Int} {zs : List Int} (hk : kindB k zs.length = true) (h : ¬ Bds i s q) : writeFault k i zs s q = 3 := by
  rw [writeFault, hk, if_pos rfl, bound_no h]; rfl
theorem fault_drop {i s q : Int} (h : Bds i s q) : writeFault 2 i [] s q = 0 := by
  rw [writeFault, show kindB 2 ([] : List Int).length = true from rfl, if_pos rfl, bound_yes h]; rfl
theorem fault_in {k i s q : Int} {zs : List Int} (hk : kindB k zs.length = true) (h : Bds i s q) : writeFault k i zs s q = if k = 1 then vecFault zs else 0 := by
  rw [writeFault, hk, if_pos rfl, bound_yes h, if_pos rfl]

def ToldDeed (w w' : World) (e : Ending) (k i : Int) (zs : List Int) (s q : Int) : Prop := e = .returned (.tuple #[deedRes k i zs s q, .int .i64 (writeFault k i zs s q)]) ∧ Below w.heap.size w w'
theorem toldDeed_bad {w w' : World} {k i s q c : Int} {zs : List Int} (hc : writeFault k i zs s q = c) (h0 : c ≠ 0) (hb : Below w.heap.size w w') : ToldDeed w w' (.returned (.tuple #[.nilIface, .int .i64 c])) k i zs s q := by
  refine ⟨?_, hb⟩
  rw [deedRes, hc, if_neg h0]
theorem toldDeed_ok {w w' : World} {k i s q : Int} {zs : List Int} {v : Value} (hc : writeFault k i zs s q = 0) (hv : v = deedV k zs) (hb : Below w.heap.size w w') : ToldDeed w w' (.returned (.tuple #[v, .int .i64 0])) k i zs s q := by
  refine ⟨?_, hb⟩
  rw [deedRes, hc, if_pos rfl, hv]

theorem isIdC (n : Int) (w : World) : Calls Try.prog 96 #[.int .i64 n] w fun e w' => e = .returned (.bool (decide (1 ≤ n) && decide (n ≤ 999))) ∧ w' = w := by
  by_cases h1 : 1 ≤ n
  · have d1 : decide (1 ≤ n) = true := by simpa using h1
    rw [d1]
    cases d2 : decide (n ≤ 999) <;>
    · go_enter Try.func96, Try.ntmps96
      go_wp2
      go_ret
      exact ⟨rfl, rfl⟩
  · have d1 : decide (1 ≤ n) = false := by simpa using h1
    rw [d1]
    go_enter Try.func96, Try.ntmps96
    go_wp2
    go_ret
    exact ⟨rfl, rfl⟩
theorem isSessionC (n : Int) (w : World) : Calls Try.prog 97 #[.int .i64 n] w fun e w' => e = .returned (.bool (decide (1 ≤ n) && decide (n ≤ 9))) ∧ w' = w := by
  by_cases h1 : 1 ≤ n
  · have d1 : decide (1 ≤ n) = true := by simpa using h1
    rw [d1]
    cases d2 : decide (n ≤ 9) <;>
    · go_enter Try.func97, Try.ntmps97
      go_wp2
      go_ret
      exact ⟨rfl, rfl⟩
  · have d1 : decide (1 ≤ n) = false := by simpa using h1
    rw [d1]
    go_enter Try.func97, Try.ntmps97
    go_wp2
    go_ret
    exact ⟨rfl, rfl⟩
theorem isSeqC (n : Int) (w : World) : Calls Try.prog 98 #[.int .i64 n] w fun e w' => e = .returned (.bool (decide (1 ≤ n) && decide (n ≤ 999))) ∧ w' = w := by
  by_cases h1 : 1 ≤ n
  · have d1 : decide (1 ≤ n) = true := by simpa using h1
    rw [d1]
    cases d2 : decide (n ≤ 999) <;>
    · go_enter Try.func98, Try.ntmps98
      go_wp2
      go_ret
      exact ⟨rfl, rfl⟩
  · have d1 : decide (1 ≤ n) = false := by simpa using h1
    rw [d1]
    go_enter Try.func98, Try.ntmps98
    go_wp2
    go_ret
    exact ⟨rfl, rfl⟩

set_option maxHeartbeats 2000000 in
theorem deedOf_put_out (i : Int) (ao : Option Addr) (cap : Nat) (s q : Int) (zs : List Int) (w : World) (hb : ¬ Bds i s q) :
    Calls Try.prog 84 #[.agg #[.int .i64 1, .int .i64 i, .slice ao zs.length cap, .int .i64 s, .int .i64 q]] w fun e w' => ToldDeed w w' e 1 i zs s q := by
  have HB : Hid (∀ o, Below w.heap.size w (w.alloc o)) := fun o => (Below.refl _ _).alloc (Nat.le_refl _) o
  have HF : Hid (writeFault 1 i zs s q = 3) := fault_out rfl hb
  have hbb := bound_no hb
  unfold boundB at hbb
  clear hb
  cases dI : (decide (1 ≤ i) && decide (i ≤ 999)) with
  | false =>
    clear hbb
    go_enter Try.func84, Try.ntmps84
    go_wp2_with fail
    refine (isIdC i _).mono ?_
    rintro e w1 ⟨rfl, rfl⟩
    rw [dI]
    go_wp2_with fail
    go_ret2
    exact toldDeed_bad (unhide HF) (by omega) (unhide HB _)
  | true =>
    cases dS : (decide (1 ≤ s) && decide (s ≤ 9)) with
    | false =>
      clear hbb
      go_enter Try.func84, Try.ntmps84
      go_wp2_with fail
      refine (isIdC i _).mono ?_
      rintro e w1 ⟨rfl, rfl⟩
      rw [dI]
      go_wp2_with fail
      refine (isSessionC s _).mono ?_
      rintro e w1 ⟨rfl, rfl⟩
      rw [dS]
      go_wp2_with fail
      go_ret2
      exact toldDeed_bad (unhide HF) (by omega) (unhide HB _)
    | true =>
      have dQ : (decide (1 ≤ q) && decide (q ≤ 999)) = false := by rw [dI, dS] at hbb; simpa using hbb
      clear hbb
      go_enter Try.func84, Try.ntmps84
      go_wp2_with fail
      refine (isIdC i _).mono ?_
      rintro e w1 ⟨rfl, rfl⟩
      rw [dI]
      go_wp2_with fail
      refine (isSessionC s _).mono ?_
      rintro e w1 ⟨rfl, rfl⟩
      rw [dS]
      go_wp2_with fail
      refine (isSeqC q _).mono ?_
      rintro e w1 ⟨rfl, rfl⟩
      rw [dQ]
      go_wp2_with fail
      go_ret2
      exact toldDeed_bad (unhide HF) (by omega) (unhide HB _)

set_option maxHeartbeats 2000000 in
theorem deedOf_drop_out (i : Int) (ao : Option Addr) (cap : Nat) (s q : Int) (w : World) (hb : ¬ Bds i s q) :
    Calls Try.prog 84 #[.agg #[.int .i64 2, .int .i64 i, .slice ao 0 cap, .int .i64 s, .int .i64 q]] w fun e w' => ToldDeed w w' e 2 i [] s q := by
  have HB : Hid (∀ o, Below w.heap.size w (w.alloc o)) := fun o => (Below.refl _ _).alloc (Nat.le_refl _) o
  have HF : Hid (writeFault 2 i [] s q = 3) := fault_out rfl hb
  have hbb := bound_no hb
  unfold boundB at hbb
  clear hb
  cases dI : (decide (1 ≤ i) && decide (i ≤ 999)) with
  | false =>
    clear hbb
    go_enter Try.func84, Try.ntmps84
    go_wp2_with fail
    refine (isIdC i _).mono ?_
    rintro e w1 ⟨rfl, rfl⟩
    rw [dI]
    go_wp2_with fail
    go_ret2
    exact toldDeed_bad (unhide HF) (by omega) (unhide HB _)
  | true =>
    cases dS : (decide (1 ≤ s) && decide (s ≤ 9)) with
    | false =>
      clear hbb
      go_enter Try.func84, Try.ntmps84
      go_wp2_with fail
      refine (isIdC i _).mono ?_
      rintro e w1 ⟨rfl, rfl⟩
      rw [dI]
      go_wp2_with fail
      refine (isSessionC s _).mono ?_
      rintro e w1 ⟨rfl, rfl⟩
      rw [dS]
      go_wp2_with fail
      go_ret2
      exact toldDeed_bad (unhide HF) (by omega) (unhide HB _)
    | true =>
      have dQ : (decide (1 ≤ q) && decide (q ≤ 999)) = false := by rw [dI, dS] at hbb; simpa using hbb
      clear hbb
      go_enter Try.func84, Try.ntmps84
      go_wp2_with fail
      refine (isIdC i _).mono ?_
      rintro e w1 ⟨rfl, rfl⟩
      rw [dI]
      go_wp2_with fail
      refine (isSessionC s _).mono ?_
      rintro e w1 ⟨rfl, rfl⟩
      rw [dS]
      go_wp2_with fail
      refine (isSeqC q _).mono ?_
      rintro e w1 ⟨rfl, rfl⟩
      rw [dQ]
      go_wp2_with fail
      go_ret2
      exact toldDeed_bad (unhide HF) (by omega) (unhide HB _)

set_option maxHeartbeats 2000000 in
theorem deedOf_drop (i : Int) (ao : Option Addr) (cap : Nat) (s q : Int) (w : World) (hb : Bds i s q) :
    Calls Try.prog 84 #[.agg #[.int .i64 2, .int .i64 i, .slice ao 0 cap, .int .i64 s, .int .i64 q]] w fun e w' => ToldDeed w w' e 2 i [] s q := by
  have HB : Hid (∀ o, Below w.heap.size w (w.alloc o)) := fun o => (Below.refl _ _).alloc (Nat.le_refl _) o
  have HF : Hid (writeFault 2 i [] s q = 0) := fault_drop hb
  obtain ⟨⟨i1, i2⟩, ⟨s1, s2⟩, q1, q2⟩ := hb
  have dI : (decide (1 ≤ i) && decide (i ≤ 999)) = true := by simp [i1, i2]
  have dS : (decide (1 ≤ s) && decide (s ≤ 9)) = true := by simp [s1, s2]
  have dQ : (decide (1 ≤ q) && decide (q ≤ 999)) = true := by simp [q1, q2]
  go_enter Try.func84, Try.ntmps84
  go_wp2_with fail
  refine (isIdC i _).mono ?_
  rintro e w1 ⟨rfl, rfl⟩
  rw [dI]
  go_wp2_with fail
  refine (isSessionC s _).mono ?_
  rintro e w1 ⟨rfl, rfl⟩
  rw [dS]
  go_wp2_with fail
  refine (isSeqC q _).mono ?_
  rintro e w1 ⟨rfl, rfl⟩
  rw [dQ]
  go_wp2_with fail
  go_ret2
  exact toldDeed_ok (unhide HF) rfl (unhide HB _)

set_option maxHeartbeats 1000000 in
theorem deedOf_many (i : Int) (ao : Option Addr) (cap n : Nat) (s q : Int) (zs : List Int) (w : World) (hn : zs.length = n + 1) :
    Calls Try.prog 84 #[.agg #[.int .i64 2, .int .i64 i, .slice ao (n + 1) cap, .int .i64 s, .int .i64 q]] w fun e w' => ToldDeed w w' e 2 i zs s q := by
  have B0 : ∀ o, Below w.heap.size w (w.alloc o) := fun o => (Below.refl _ _).alloc (Nat.le_refl _) o
  have HB := hide B0
  have hF : writeFault 2 i zs s q = 1 := by
    have : kindB 2 zs.length = false := by simp [kindB]; omega
    rw [writeFault, this]; rfl
  have HF := hide hF
  clear B0 hF hn
  go_enter Try.func84, Try.ntmps84
  go_wp2
  go_ret2
  exact toldDeed_bad (unhide HF) (by omega) (unhide HB _)

set_option maxHeartbeats 1000000 in
theorem deedOf_none (k i : Int) (ao : Option Addr) (cap : Nat) (s q : Int) (zs : List Int) (w : World) (h1 : k ≠ 1) (h2 : k ≠ 2) :
    Calls Try.prog 84 #[.agg #[.int .i64 k, .int .i64 i, .slice ao zs.length cap, .int .i64 s, .int .i64 q]] w fun e w' => ToldDeed w w' e k i zs s q := by
  have B0 : ∀ o, Below w.heap.size w (w.alloc o) := fun o => (Below.refl _ _).alloc (Nat.le_refl _) o
  have HB := hide B0
  have hF : writeFault k i zs s q = 1 := by
    have : kindB k zs.length = false := by simp [kindB]; omega
    rw [writeFault, this]; rfl
  have HF := hide hF
  clear B0 hF
  go_enter Try.func84, Try.ntmps84
  go_wp2
  go_ret2
  exact toldDeed_bad (unhide HF) (by omega) (unhide HB _)

theorem vectorOf_any (v : Value) (zs : List Int) (w : World) (h : IsInts w v zs) :
    Calls Try.prog 99 #[v] w fun e w' => e = .returned (.tuple #[if vecFault zs = 0 then arr3 (zs.getD 0 0) (zs.getD 1 0) (zs.getD 2 0) else arr3 0 0 0, .int .i64 (vecFault zs)]) ∧ Below w.heap.size w w' := by
  by_cases hf : vecFault zs = 0
  · obtain ⟨hl, -⟩ := vecFault_zero hf
    match zs, hl with
    | [x, y, z], _ =>
      rw [if_pos hf]
      refine (vectorOf_ok v x y z w h hf).mono ?_
      rintro e w' ⟨rfl, hb⟩
      exact ⟨by rw [hf]; rfl, hb⟩
  · rw [if_neg hf]
    exact vectorOf_bad v zs w h hf

set_option maxHeartbeats 2000000 in
theorem deedOf_put (i : Int) (ao : Option Addr) (cap : Nat) (s q : Int) (zs : List Int) (w : World) (h : IsInts w (.slice ao zs.length cap) zs) (hb : Bds i s q) :
    Calls Try.prog 84 #[.agg #[.int .i64 1, .int .i64 i, .slice ao zs.length cap, .int .i64 s, .int .i64 q]] w fun e w' => ToldDeed w w' e 1 i zs s q := by
  have B0 : Below w.heap.size w (w.alloc (.cells #[.int .i64 1, .int .i64 i, .slice ao zs.length cap, .int .i64 s, .int .i64 q] 58)) := (Below.refl _ _).alloc (Nat.le_refl _) _
  have HB := hide B0
  have H := hide (h.later B0)
  clear h B0
  have HF : Hid (writeFault 1 i zs s q = vecFault zs) := fault_in rfl hb
  obtain ⟨⟨i1, i2⟩, ⟨s1, s2⟩, q1, q2⟩ := hb
  have dI : (decide (1 ≤ i) && decide (i ≤ 999)) = true := by simp [i1, i2]
  have dS : (decide (1 ≤ s) && decide (s ≤ 9)) = true := by simp [s1, s2]
  have dQ : (decide (1 ≤ q) && decide (q ≤ 999)) = true := by simp [q1, q2]
  go_enter Try.func84, Try.ntmps84
  go_wp2_with fail
  refine (isIdC i _).mono ?_
  rintro e w1 ⟨rfl, rfl⟩
  rw [dI]
  go_wp2_with fail
  refine (isSessionC s _).mono ?_
  rintro e w1 ⟨rfl, rfl⟩
  rw [dS]
  go_wp2_with fail
  refine (isSeqC q _).mono ?_
  rintro e w1 ⟨rfl, rfl⟩
  rw [dQ]
  go_wp2_with fail
  refine (vectorOf_any _ zs _ (unhide H)).mono ?_
  rintro e w1 ⟨rfl, hb1⟩
  have HB1 := hide ((unhide HB).trans (hb1.mono (unhide HB).size))
  have hz : w.heap.size ≤ w1.heap.size := (unhide HB1).size
  clear HB hb1 H
  generalize hV : vecFault zs = F at *
  by_cases hf : F = 0
  · subst hf
    rw [if_pos rfl]
    simp only [arr3]
    go_wp2_with fail
    go_ret2
    refine toldDeed_ok (unhide HF) ?_ ?_
    · rw [deedV, if_pos rfl]; rfl
    · exact (unhide HB1).alloc hz _
  · rw [if_neg hf]
    have hd : (F != 0) = true := by rw [bne_iff_ne]; exact hf
    have HN := hide hf
    clear hf
    simp only [arr3]
    go_wp2_with fail
    go_ret2
    exact toldDeed_bad (unhide HF) (unhide HN) ((unhide HB1).alloc hz _)

/-- deedOf of the program. -/
theorem implDeed (k i : Int) (v : Value) (s q : Int) (zs : List Int) (w : World) (h : IsInts w v zs) :
    Calls Try.prog 84 #[.agg #[.int .i64 k, .int .i64 i, v, .int .i64 s, .int .i64 q]] w fun e w' => ToldDeed w w' e k i zs s q := by
  have h' := h
  obtain ⟨ao, cap, rfl, -⟩ := h'
  by_cases h1 : k = 1
  · subst h1
    by_cases hb : Bds i s q
    · exact deedOf_put i ao cap s q zs w h hb
    · exact deedOf_put_out i ao cap s q zs w hb
  · by_cases h2 : k = 2
    · subst h2
      rcases Nat.eq_zero_or_pos zs.length with h0 | h0
      · obtain rfl : zs = [] := List.eq_nil_of_length_eq_zero h0
        by_cases hb : Bds i s q
        · exact deedOf_drop i ao cap s q w hb
        · exact deedOf_drop_out i ao cap s q w hb
      · obtain ⟨n, hn⟩ : ∃ n, zs.length = n + 1 := ⟨zs.length - 1, by omega⟩
        rw [hn]
        exact deedOf_many i ao cap n s q zs w hn
    · exact deedOf_none k i ao cap s q zs w h1 h2

end Go.Proofs.Ytipomhpimmnchaa

namespace Go.Proofs.Ytipomhpimmnchaa
open Go.RowKit

theorem assertPut (v : Value) (w : World) : (Instr.typeAssert (.iface 123 v) 106 123 true).run Try.prog w = .ok (.tuple #[v, .bool true]) w := by kernel_rfl
theorem assertDrop (v : Value) (w : World) : (Instr.typeAssert (.iface 119 v) 106 123 true).run Try.prog w = .ok (.tuple #[.agg #[.int .i64 0, .int .i64 0, .int .i64 0], .bool false]) w := by kernel_rfl

theorem partsPut (x y z : Int) (w : World) : Calls Try.prog 85 #[putV x y z] w fun e w' => e = .returned (arr3 x y z) ∧ Below w.heap.size w w' := by
  simp only [putV]
  have a1 := assertPut
  have HB : Hid (∀ o p, Below w.heap.size w ((w.alloc o).alloc p)) := fun o p => ((Below.refl _ _).alloc (Nat.le_refl _) o).alloc (by simp) p
  go_enter Try.func85, Try.ntmps85
  go_wp2
  refine bodyPost_ret (v := arr3 x y z) (by simp [results, Try.results85, go_sem, arr3]) rfl ⟨rfl, ?_⟩
  exact unhide HB _ _
theorem partsDrop (w : World) : Calls Try.prog 85 #[dropV] w fun e w' => e = .returned (arr3 0 0 0) ∧ Below w.heap.size w w' := by
  simp only [dropV]
  have a1 := assertDrop
  go_enter Try.func85, Try.ntmps85
  go_wp2
  refine bodyPost_ret (v := arr3 0 0 0) (by simp [results, Try.results85, go_sem, arr3]) rfl ⟨rfl, ?_⟩
  exact (Below.refl _ _).alloc (Nat.le_refl _) _
set_option maxHeartbeats 1000000 in
theorem sealC (g cap : Nat) (a b c d x y z : Int) (w : World)
    (c0 : w.cell? ⟨g, 0, none⟩ = some (.int .i64 a)) (c1 : w.cell? ⟨g, 1, none⟩ = some (.int .i64 b)) (c2 : w.cell? ⟨g, 2, none⟩ = some (.int .i64 c)) (c3 : w.cell? ⟨g, 3, none⟩ = some (.int .i64 d))
    (c4 : w.cell? ⟨g, 4, none⟩ = some (.int .i64 x)) (c5 : w.cell? ⟨g, 5, none⟩ = some (.int .i64 y)) (c6 : w.cell? ⟨g, 6, none⟩ = some (.int .i64 z))
    (ba : 1 ≤ a ∧ a ≤ 2) (bb : 1 ≤ b ∧ b ≤ 999) (bc : 1 ≤ c ∧ c ≤ 9) (bd : 1 ≤ d ∧ d ≤ 999) (bx : -1000 ≤ x ∧ x ≤ 1000) (bY : -1000 ≤ y ∧ y ≤ 1000) (bz : -1000 ≤ z ∧ z ≤ 1000) :
    Calls Try.prog 86 #[.slice (some ⟨g, 0, none⟩) 7 cap] w fun e w' => e = .returned (.int .i64 (checkOf (packSum a b c d x y z))) ∧ Below w.heap.size w w' := by
  have hgl : g < w.heap.size := World.block_lt_of_cell? _ _ c0
  obtain ⟨a1, a2⟩ := ba
  obtain ⟨b1, b2⟩ := bb
  obtain ⟨e1, e2⟩ := bc
  obtain ⟨d1, d2⟩ := bd
  obtain ⟨m1, m2⟩ := bx
  obtain ⟨m3, m4⟩ := bY
  obtain ⟨m5, m6⟩ := bz
  have x0 : ∀ w : World, (Instr.index 124 (.agg #[.int .i64 1, .int .i64 3, .int .i64 5, .int .i64 7, .int .i64 11, .int .i64 13, .int .i64 17]) (.int .i64 0)).run Try.prog w = .ok (.int .i64 1) w := fun _ => by kernel_rfl
  have x1 : ∀ w : World, (Instr.index 124 (.agg #[.int .i64 1, .int .i64 3, .int .i64 5, .int .i64 7, .int .i64 11, .int .i64 13, .int .i64 17]) (.int .i64 1)).run Try.prog w = .ok (.int .i64 3) w := fun _ => by kernel_rfl
  have x2 : ∀ w : World, (Instr.index 124 (.agg #[.int .i64 1, .int .i64 3, .int .i64 5, .int .i64 7, .int .i64 11, .int .i64 13, .int .i64 17]) (.int .i64 2)).run Try.prog w = .ok (.int .i64 5) w := fun _ => by kernel_rfl
  have x3 : ∀ w : World, (Instr.index 124 (.agg #[.int .i64 1, .int .i64 3, .int .i64 5, .int .i64 7, .int .i64 11, .int .i64 13, .int .i64 17]) (.int .i64 3)).run Try.prog w = .ok (.int .i64 7) w := fun _ => by kernel_rfl
  have x4 : ∀ w : World, (Instr.index 124 (.agg #[.int .i64 1, .int .i64 3, .int .i64 5, .int .i64 7, .int .i64 11, .int .i64 13, .int .i64 17]) (.int .i64 4)).run Try.prog w = .ok (.int .i64 11) w := fun _ => by kernel_rfl
  have x5 : ∀ w : World, (Instr.index 124 (.agg #[.int .i64 1, .int .i64 3, .int .i64 5, .int .i64 7, .int .i64 11, .int .i64 13, .int .i64 17]) (.int .i64 5)).run Try.prog w = .ok (.int .i64 13) w := fun _ => by kernel_rfl
  have x6 : ∀ w : World, (Instr.index 124 (.agg #[.int .i64 1, .int .i64 3, .int .i64 5, .int .i64 7, .int .i64 11, .int .i64 13, .int .i64 17]) (.int .i64 6)).run Try.prog w = .ok (.int .i64 17) w := fun _ => by kernel_rfl
  go_enter Try.func86, Try.ntmps86
  go_wp2
  refine wp_loop_rounds 8 ?_
  rw [rounds_succ]
  go_wp2
  rw [rounds_succ]
  go_wp2
  rw [rounds_succ]
  go_wp2
  rw [rounds_succ]
  go_wp2
  rw [rounds_succ]
  go_wp2
  rw [rounds_succ]
  go_wp2
  rw [rounds_succ]
  go_wp2
  rw [rounds_succ]
  go_wp2
  go_ret
  refine ⟨?_, (Below.refl _ _).alloc (Nat.le_refl _) _⟩
  have hT := tmod_bd (a + 3 * b + 5 * c + 7 * d + 11 * x + 13 * y + 17 * z)
  have hW : wrap64 ((a + 3 * b + 5 * c + 7 * d + 11 * x + 13 * y + 17 * z).tmod 997 + 997) = (a + 3 * b + 5 * c + 7 * d + 11 * x + 13 * y + 17 * z).tmod 997 + 997 := by
    unfold wrap64
    omega
  simp [checkOf, packSum, hW]

theorem partsC (k : Int) (zs : List Int) (w : World) : Calls Try.prog 85 #[deedV k zs] w fun e w' => e = .returned (arr3 ((partsOf k zs).getD 0 0) ((partsOf k zs).getD 1 0) ((partsOf k zs).getD 2 0)) ∧ Below w.heap.size w w' := by
  by_cases hk : k = 1
  · simp only [deedV, partsOf, if_pos hk]
    exact partsPut _ _ _ w
  · simp only [deedV, partsOf, if_neg hk]
    exact partsDrop w

theorem partsBd {k i s q : Int} {zs : List Int} (h : writeFault k i zs s q = 0) : ∀ j, -1000 ≤ (partsOf k zs).getD j 0 ∧ (partsOf k zs).getD j 0 ≤ 1000 := by
  intro j
  obtain ⟨-, -, -, hk⟩ := writeFault_zero h
  rcases hk with ⟨rfl, hv⟩ | ⟨rfl, rfl⟩
  · obtain ⟨hl, -⟩ := vecFault_zero hv
    match zs, hl with
    | [x, y, z], _ =>
    obtain ⟨b1, b2, b3⟩ := fault3 hv
    rw [partsOf, if_pos rfl]
    match j with
    | 0 => exact b1
    | 1 => exact b2
    | 2 => exact b3
    | n + 3 => simp
  · rw [partsOf, if_neg (by omega)]
    match j with
    | 0 => simp
    | 1 => simp
    | 2 => simp
    | n + 3 => simp

set_option maxHeartbeats 2000000 in
theorem packOk (k i : Int) (ao : Option Addr) (cap : Nat) (s q : Int) (zs : List Int) (w : World) (h : IsInts w (.slice ao zs.length cap) zs) (hf : writeFault k i zs s q = 0) :
    Calls Try.prog 55 #[.agg #[.int .i64 k, .int .i64 i, .slice ao zs.length cap, .int .i64 s, .int .i64 q]] w fun e w' => ToldInts w w' e 0 (wordsOf k i zs s q) := by
  have B0 : Below w.heap.size w ((w.alloc (.cells #[.int .i64 k, .int .i64 i, .slice ao zs.length cap, .int .i64 s, .int .i64 q] 58)).alloc (.cells #[.int .i64 0, .slice none 0 0] 26)) := ((Below.refl _ _).alloc (Nat.le_refl _) _).alloc (by simp) _
  have bA : Box w.heap.size #[.int .i64 k, .int .i64 i, .slice ao zs.length cap, .int .i64 s, .int .i64 q] 58 ((w.alloc (.cells #[.int .i64 k, .int .i64 i, .slice ao zs.length cap, .int .i64 s, .int .i64 q] 58)).alloc (.cells #[.int .i64 0, .slice none 0 0] 26)) w.heap.size := (newBox (Nat.le_refl _)).alloc _
  have bR : Box w.heap.size #[.int .i64 0, .slice none 0 0] 26 ((w.alloc (.cells #[.int .i64 k, .int .i64 i, .slice ao zs.length cap, .int .i64 s, .int .i64 q] 58)).alloc (.cells #[.int .i64 0, .slice none 0 0] 26)) (w.heap.size + 1) := by
    have := newBox (lo := w.heap.size) (cs := #[.int .i64 0, .slice none 0 0]) (T := 26) (W := w.alloc (.cells #[.int .i64 k, .int .i64 i, .slice ao zs.length cap, .int .i64 s, .int .i64 q] 58)) (by simp)
    simpa using this
  have hz0 : ((w.alloc (.cells #[.int .i64 k, .int .i64 i, .slice ao zs.length cap, .int .i64 s, .int .i64 q] 58)).alloc (.cells #[.int .i64 0, .slice none 0 0] 26)).heap.size = w.heap.size + 2 := by simp
  have L := hide (implDeed k i _ s q zs _ (h.later B0))
  have hd : deedRes k i zs s q = deedV k zs := by rw [deedRes, if_pos hf]
  have HW : Hid (wordsOf k i zs s q = [k, i, s, q, (partsOf k zs).getD 0 0, (partsOf k zs).getD 1 0, (partsOf k zs).getD 2 0, checkOf (packSum k i s q ((partsOf k zs).getD 0 0) ((partsOf k zs).getD 1 0) ((partsOf k zs).getD 2 0))]) := rfl
  have PB := partsBd hf
  obtain ⟨i1, s1, q1, hk⟩ := writeFault_zero hf
  have k1 : 1 ≤ k ∧ k ≤ 2 := by omega
  have HD := hide hd
  have HF := hide hf
  clear h hd hf hk
  go_enter Try.func55, Try.ntmps55
  go_wp2_with fail
  generalize (w.alloc (.cells #[.int .i64 k, .int .i64 i, .slice ao zs.length cap, .int .i64 s, .int .i64 q] 58)).alloc (.cells #[.int .i64 0, .slice none 0 0] 26) = W0 at *
  refine (unhide L).mono ?_
  rintro e w1 ⟨rfl, hb1⟩
  rw [unhide HD, unhide HF]
  replace bA := bA.keep hb1
  replace bR := bR.keep hb1
  have HB1 := hide (B0.trans (hb1.mono B0.size))
  have hz1 : w.heap.size + 2 ≤ w1.heap.size := by have := hb1.size; omega
  clear hb1 B0 L HD HF
  obtain ⟨⟨a0, a1, a2, a3, a4⟩, -, al⟩ := bA.five
  obtain ⟨r0, r1, r2, r3⟩ := bR.two
  go_wp2_with fail
  have O1 : (w1.alloc (.cells #[.int .i64 k, .int .i64 i, .int .i64 s, .int .i64 q] 2)).ownsRow w1.heap.size 2 1 (.slice (some ⟨w1.heap.size, 0, none⟩) 4 4) 4 ([.int .i64 k, .int .i64 i, .int .i64 s, .int .i64 q]) := World.ownsRow_lit w1 _ 4 (Nat.le_refl _) (by unfold maxLen; omega) rfl
  refine (partsC k zs _).mono ?_
  rintro e w2 ⟨rfl, hb2⟩
  replace O1 := own_below O1 hb2
  have nb1 : Below w1.heap.size w1 (w1.alloc (.cells #[.int .i64 k, .int .i64 i, .int .i64 s, .int .i64 q] 2)) := (Below.refl _ _).alloc (Nat.le_refl _) _
  have HB2 := hide (nb1.trans (hb2.mono nb1.size))
  have hz2 : w1.heap.size < w2.heap.size := by have := hb2.size; simp at this; omega
  clear hb2 nb1 a0 a1 a2 a3 a4 r0 r1 r2 r3 bA
  have P0 := PB 0
  have P1 := PB 1
  have P2 := PB 2
  generalize (partsOf k zs).getD 0 0 = x at *
  generalize (partsOf k zs).getD 1 0 = y at *
  generalize (partsOf k zs).getD 2 0 = z at *
  clear PB
  have j0 : ∀ w : World, (Instr.index 110 (.agg #[.int .i64 x, .int .i64 y, .int .i64 z]) (.int .i64 0)).run Try.prog w = .ok (.int .i64 x) w := fun _ => by kernel_rfl
  have j1 : ∀ w : World, (Instr.index 110 (.agg #[.int .i64 x, .int .i64 y, .int .i64 z]) (.int .i64 1)).run Try.prog w = .ok (.int .i64 y) w := fun _ => by kernel_rfl
  have j2 : ∀ w : World, (Instr.index 110 (.agg #[.int .i64 x, .int .i64 y, .int .i64 z]) (.int .i64 2)).run Try.prog w = .ok (.int .i64 z) w := fun _ => by kernel_rfl
  simp only [arr3]
  go_wp2_with fail
  refine wp_loop_rounds 4 ?_
  rw [rounds_succ]
  go_wp2_with (at_builtin; refine wpList_append_int O1 x rfl _ _ rfl rfl rfl (by omega) (by omega) ?_)
  rintro g1 d1 w3 O2 - hb3 hl3 hz3
  replace HB2 := hide ((unhide HB2).trans hb3)
  clear O1 hb3
  go_wp2_with fail
  rw [rounds_succ]
  go_wp2_with (at_builtin; refine wpList_append_int O2 y rfl _ _ rfl rfl rfl (by omega) (by omega) ?_)
  rintro g2 d2 w4 O3 - hb4 hl4 hz4
  replace HB2 := hide ((unhide HB2).trans hb4)
  clear O2 hb4
  go_wp2_with fail
  rw [rounds_succ]
  go_wp2_with (at_builtin; refine wpList_append_int O3 z rfl _ _ rfl rfl rfl (by omega) (by omega) ?_)
  rintro g3 d3 w5 O4 - hb5 hl5 hz5
  replace HB2 := hide ((unhide HB2).trans hb5)
  clear O3 hb5
  go_wp2_with fail
  rw [rounds_succ]
  go_wp2_with fail
  have Lq := sealC g3 d3 k i s q x y z w5 (by rw [O4.cellAt 0 (by omega)]; rfl) (by rw [O4.cellAt 1 (by omega)]; rfl) (by rw [O4.cellAt 2 (by omega)]; rfl) (by rw [O4.cellAt 3 (by omega)]; rfl) (by rw [O4.cellAt 4 (by omega)]; rfl) (by rw [O4.cellAt 5 (by omega)]; rfl) (by rw [O4.cellAt 6 (by omega)]; rfl) k1 i1 s1 q1 P0 P1 P2
  refine Lq.mono ?_
  rintro e w6 ⟨rfl, hb6⟩
  replace O4 := own_below O4 hb6
  replace HB2 := hide ((unhide HB2).trans (hb6.mono (by omega)))
  have hz6 := hb6.size
  clear hb6 Lq j0 j1 j2
  generalize checkOf (packSum k i s q x y z) = c at *
  go_wp2_with (at_builtin; refine wpList_append_int O4 c rfl _ _ rfl rfl rfl (by omega) (by omega) ?_)
  rintro g4 d4 w7 O5 - hb7 hl7 hz7
  replace HB2 := hide ((unhide HB2).trans hb7)
  clear O4 hb7
  obtain ⟨r0, r1, r2, r3⟩ := (bR.keep (unhide HB2)).two
  go_wp2_with fail
  refine bodyPost_ret (v := intsRes 0 (.slice (some ⟨g4, 0, none⟩) 8 d4)) (by simp [results, Try.results55, go_sem, intsRes, r0, r1]) rfl ?_
  rw [unhide HW]
  refine ⟨_, rfl, own_mono (b := w1.heap.size) (by omega) ?_, (((unhide HB1).trans ((unhide HB2).mono (by omega))).setCell (by simp) _).setCell (by simp) _⟩
  exact own_setC (own_setC O5 (by simp; omega) _) (by simp; omega) _

set_option maxHeartbeats 2000000 in
theorem packBad (k i : Int) (ao : Option Addr) (cap : Nat) (s q : Int) (zs : List Int) (w : World) (h : IsInts w (.slice ao zs.length cap) zs) (hf : writeFault k i zs s q ≠ 0) :
    Calls Try.prog 55 #[.agg #[.int .i64 k, .int .i64 i, .slice ao zs.length cap, .int .i64 s, .int .i64 q]] w fun e w' => ToldInts w w' e (writeFault k i zs s q) [] := by
  have B0 : Below w.heap.size w ((w.alloc (.cells #[.int .i64 k, .int .i64 i, .slice ao zs.length cap, .int .i64 s, .int .i64 q] 58)).alloc (.cells #[.int .i64 0, .slice none 0 0] 26)) := ((Below.refl _ _).alloc (Nat.le_refl _) _).alloc (by simp) _
  have bR : Box w.heap.size #[.int .i64 0, .slice none 0 0] 26 ((w.alloc (.cells #[.int .i64 k, .int .i64 i, .slice ao zs.length cap, .int .i64 s, .int .i64 q] 58)).alloc (.cells #[.int .i64 0, .slice none 0 0] 26)) (w.heap.size + 1) := by
    have := newBox (lo := w.heap.size) (cs := #[.int .i64 0, .slice none 0 0]) (T := 26) (W := w.alloc (.cells #[.int .i64 k, .int .i64 i, .slice ao zs.length cap, .int .i64 s, .int .i64 q] 58)) (by simp)
    simpa using this
  have L := hide (implDeed k i _ s q zs _ (h.later B0))
  have HD : Hid (deedRes k i zs s q = .nilIface) := by
    show deedRes k i zs s q = .nilIface
    rw [deedRes, if_neg hf]
  have hne : (writeFault k i zs s q != 0) = true := by rw [bne_iff_ne]; exact hf
  clear h hf
  go_enter Try.func55, Try.ntmps55
  go_wp2_with fail
  generalize (w.alloc (.cells #[.int .i64 k, .int .i64 i, .slice ao zs.length cap, .int .i64 s, .int .i64 q] 58)).alloc (.cells #[.int .i64 0, .slice none 0 0] 26) = W0 at *
  refine (unhide L).mono ?_
  rintro e w1 ⟨rfl, hb1⟩
  rw [unhide HD]
  replace bR := bR.keep hb1
  have HB1 := hide (B0.trans (hb1.mono B0.size))
  clear hb1 B0 L HD
  obtain ⟨r0, r1, r2, r3⟩ := bR.two
  generalize hF : writeFault k i zs s q = F at *
  have HF := hide hF
  clear hF
  go_wp2_with fail
  refine bodyPost_ret (v := intsRes F (.slice none 0 0)) (by simp [results, Try.results55, go_sem, intsRes, r0, r1]) rfl ?_
  rw [unhide HF]
  refine toldInts_nil ?_
  exact ((unhide HB1).setCell (by simp) _).setCell (by simp) _

/-- PackWrite of the program. -/
theorem implPack (k i : Int) (v : Value) (s q : Int) (zs : List Int) (w : World) (h : IsInts w v zs) :
    Calls Try.prog 55 #[.agg #[.int .i64 k, .int .i64 i, v, .int .i64 s, .int .i64 q]] w fun e w' => ToldInts w w' e (writeFault k i zs s q) (packList k i zs s q) := by
  have h' := h
  obtain ⟨ao, cap, rfl, -⟩ := h'
  by_cases hf : writeFault k i zs s q = 0
  · rw [packList, if_pos hf, hf]
    exact packOk k i ao cap s q zs w h hf
  · rw [packList, if_neg hf]
    exact packBad k i ao cap s q zs w h hf

end Go.Proofs.Ytipomhpimmnchaa

namespace Go.Proofs.Ytipomhpimmnchaa
open Go.RowKit

theorem splice_at (ws : List DWrite) (k : Nat) (hk : k < ws.length) (hf : ∀ x ∈ ws.take (k + 1), wF x = 0) (h : wF ws[k] = 0) :
    splice ((packs (ws.take k)).map (Value.int .i64) ++ List.replicate (8 * (ws.length - k)) (Value.int .i64 0)) (8 * k) ((packD ws[k]).map (Value.int .i64)) = (packs (ws.take (k + 1))).map (Value.int .i64) ++ List.replicate (8 * (ws.length - (k + 1))) (Value.int .i64 0) := by
  have h0 : ∀ x ∈ ws.take k, wF x = 0 := fun x hx => hf x (by rw [List.take_succ_eq_append_getElem hk]; exact List.mem_append_left _ hx)
  have hl : ((packs (ws.take k)).map (Value.int .i64)).length = 8 * k := by rw [List.length_map, packs_len _ h0, List.length_take]; omega
  have h8 : ((packD ws[k]).map (Value.int .i64)).length = 8 := by rw [List.length_map, packD_len h]
  rw [packs_snoc ws k hk, List.map_append, List.append_assoc]
  unfold splice
  rw [h8, List.take_append_of_le_length (by omega), List.take_of_length_le (by omega)]
  congr 2
  rw [List.drop_append, List.drop_eq_nil_of_le (by omega), List.nil_append, hl, List.drop_replicate]
  congr 1
  omega

set_option maxRecDepth 100000 in
set_option maxHeartbeats 8000000 in
theorem implPackAll_few (ao : Option Addr) (cap : Nat) (ws : List DWrite) (w : World) (h : (Lay.sl Lay.tWrite).Reads w [.slice ao ws.length cap] ws) (hn : ws.length ≤ 40) :
    Calls Try.prog 14 #[.slice ao ws.length cap] w fun e w' => ∃ cs, e = .returned (.agg cs.toArray) ∧ Lay.tIntsResult.OwnIn w' cs (packAllR ws) w.heap.size w'.heap.size ∧ Below w.heap.size w w' := by
  have hnn : ¬ 40 < ws.length := by omega
  have nb : Below w.heap.size w (w.alloc (.cells #[.int .i64 0, .slice none 0 0] 26)) := (Below.refl _ _).alloc (Nat.le_refl _) _
  have bR : Box w.heap.size #[.int .i64 0, .slice none 0 0] 26 (w.alloc (.cells #[.int .i64 0, .slice none 0 0] 26)) w.heap.size := newBox (Nat.le_refl _)
  have H := hide h
  have HB := hide nb
  have HR := hide bR
  have hbig := h.big
  obtain ⟨i0, hi, hz0, hz1, hz2⟩ := info_parts info2
  clear h nb bR
  go_enter Try.func14, Try.ntmps14
  go_wp2_with (at_make; refine wpList_make_full _ rfl _ _ 24 rfl w.heap.size 2 i0 (.int .i64 0) 1 Try.underlying24 hi hz0 hz1 _ _ _ _ (8 * ws.length) rfl rfl ?c0 ?c01 ?c1 ?c2 ?c3 ?_)
  case c0 => simp
  case c01 => simp
  case c1 => rw [hz2]; omega
  case c2 => unfold maxLen; omega
  case c3 => simp
  generalize w.alloc (.cells #[.int .i64 0, .slice none 0 0] 26) = W0 at *
  intro w2 hown hgrow
  rw [toList_madeCells_one] at hown
  have hB2 : Below W0.heap.size W0 w2 := (Below.refl _ _).grown hgrow (Nat.le_refl _) (by simp)
  obtain ⟨hh, -, -⟩ := own_full hown
  have HH := hide hh
  have HR2 := hide ((unhide HR).keep hB2)
  have HB2 := hide ((unhide HB).trans (hB2.mono (unhide HB).size))
  obtain ⟨g0, hg0⟩ : ∃ g0, g0 = w.heap.size + 1 := ⟨_, rfl⟩
  have HPG : Hid (w.heap.size < g0) := by show w.heap.size < g0; omega
  rw [← hg0] at HH ⊢
  clear hgrow hi hz0 hz1 hz2 hown hh hB2 HR HB hg0
  go_wp2_with fail
  go_loopw [17] (fun i wr => ∃ k : Nat, k ≤ ws.length ∧ i = .int .i64 k ∧ (∀ j (hj : j < ws.length), j < k → wF ws[j] = 0) ∧ wr.heap[g0]? = some (.cells ((packs (ws.take k)).map (Value.int .i64) ++ List.replicate (8 * (ws.length - k)) (Value.int .i64 0)).toArray 2 (0, 0)) ∧ Box w.heap.size #[.int .i64 0, .slice none 0 0] 26 wr w.heap.size ∧ Below w.heap.size w wr) (fun i _ => ws.length - (intOf i).toNat)
  case atStart => exact ⟨0, Nat.zero_le _, rfl, fun _ _ h => by omega, unhide HH, unhide HR2, unhide HB2⟩
  case round =>
    obtain ⟨k, hk, rfl, hz, hrow, hR, hB⟩ := hrel
    clear HH HR2 HB2
    by_cases hlt : k < ws.length
    · obtain ⟨b, off, rfl, hbl⟩ := Lay.sl_addr (unhide H) (by omega)
      obtain ⟨row, hc, hr⟩ := Lay.row_at ((unhide H).later hB) hlt
      obtain ⟨a2, d2, rfl, R2⟩ := open_Write hr
      have c0 : wr.cell? ⟨b, off + k * 5, none⟩ = some (.int .i64 (ws[k]).kind) := hc 0 (by decide)
      have c1 : wr.cell? ⟨b, off + k * 5 + 1, none⟩ = some (.int .i64 (ws[k]).id) := hc 1 (by decide)
      have c2 : wr.cell? ⟨b, off + k * 5 + 2, none⟩ = some (.slice a2 (ws[k]).vec.length d2) := hc 2 (by decide)
      have c3 : wr.cell? ⟨b, off + k * 5 + 3, none⟩ = some (.int .i64 (ws[k]).session) := hc 3 (by decide)
      have c4 : wr.cell? ⟨b, off + k * 5 + 4, none⟩ = some (.int .i64 (ws[k]).seq) := hc 4 (by decide)
      have hbr : b < wr.heap.size := Nat.lt_of_lt_of_le hbl hB.size
      have HAT := hide (wsFrom_at ws k hlt hz)
      have HNX0 : Hid (wF ws[k] = 0 → ∀ j (hj : j < ws.length), j < k + 1 → wF ws[j] = 0) := by
        intro e j hj h1
        by_cases h2 : j = k
        · subst h2; exact e
        · exact hz j hj (by omega)
      have HSP : Hid ((∀ x ∈ ws.take (k + 1), wF x = 0) → wF ws[k] = 0 → splice ((packs (ws.take k)).map (Value.int .i64) ++ List.replicate (8 * (ws.length - k)) (Value.int .i64 0)) (8 * k) ((packD ws[k]).map (Value.int .i64)) = (packs (ws.take (k + 1))).map (Value.int .i64) ++ List.replicate (8 * (ws.length - (k + 1))) (Value.int .i64 0)) := splice_at ws k hlt
      have HPK : Hid (packList ws[k].kind ws[k].id ws[k].vec ws[k].session ws[k].seq = packD ws[k]) := rfl
      have HWX : Hid (writeFault ws[k].kind ws[k].id ws[k].vec ws[k].session ws[k].seq = wF ws[k]) := rfl
      have hcl : ((packs (ws.take k)).map (Value.int .i64) ++ List.replicate (8 * (ws.length - k)) (Value.int .i64 0)).length = 8 * ws.length := by
        rw [List.length_append, List.length_map, List.length_replicate, packs_len (ws.take k) (fun x hx => by
          obtain ⟨j, hj, rfl⟩ := List.getElem_of_mem hx
          rw [List.getElem_take]
          rw [List.length_take] at hj
          exact hz j (by omega) (by omega)), List.length_take]
        omega
      have HCL := hide hcl
      have HZ := hide hz
      clear hc hr hz hcl
      generalize hx : ws[k] = x at *
      clear hx
      have nb1 : Below wr.heap.size wr (wr.alloc (.cells #[.int .i64 x.kind, .int .i64 x.id, .slice a2 x.vec.length d2, .int .i64 x.session, .int .i64 x.seq] 58)) := (Below.refl _ _).alloc (Nat.le_refl _) _
      have L := hide (implPack x.kind x.id _ x.session x.seq x.vec _ ((Lay.ints_reads R2).later nb1))
      rw [unhide HPK, unhide HWX] at L
      have HN1 := hide nb1
      have HROW := hide hrow
      have HRB := hide hR
      have HBB := hide hB
      clear nb1 R2 hrow hR hB HPK HWX
      go_wp2_with fail
      refine (unhide L).mono ?_
      clear c0 c1 c2 c3 c4
      have HZ1 : Hid ((wr.alloc (.cells #[.int .i64 x.kind, .int .i64 x.id, .slice a2 x.vec.length d2, .int .i64 x.session, .int .i64 x.seq] 58)).heap.size = wr.heap.size + 1) := by show _ = _; simp
      generalize wr.alloc (.cells #[.int .i64 x.kind, .int .i64 x.id, .slice a2 x.vec.length d2, .int .i64 x.session, .int .i64 x.seq] 58) = W1 at *
      rintro e w3 ⟨r3, rfl, O3, hb3⟩
      obtain ⟨a4, c4, rfl⟩ := own_shape O3
      have hOI := Lay.ownInts (zs := packD x) (fun z hz => packList_wf z hz) (Nat.le_trans packList_len (by omega)) O3
      have nb5 : Below w3.heap.size w3 (w3.alloc (.cells #[.int .i64 (wF x), .slice a4 (packD x).length c4] 26)) := (Below.refl _ _).alloc (Nat.le_refl _) _
      have hB13 : Below wr.heap.size wr w3 := (unhide HN1).trans (hb3.mono (unhide HN1).size)
      have hB15 := hB13.trans (nb5.mono hB13.size)
      have HOI := hide (hOI.later nb5)
      have HP5 : Hid (Box 0 #[.int .i64 (wF x), .slice a4 (packD x).length c4] 26 (w3.alloc (.cells #[.int .i64 (wF x), .slice a4 (packD x).length c4] 26)) w3.heap.size) := newBox (Nat.zero_le _)
      have HR5 := hide ((unhide HRB).keep hB15)
      have HB5 := hide ((unhide HBB).trans (hB15.mono (unhide HBB).size))
      have HROW5 := hide ((hB15.block g0 (Array.getElem?_eq_some_iff.1 (unhide HROW)).1).trans (unhide HROW))
      have HG1 : Hid (g0 < W1.heap.size ∧ g0 < w3.heap.size) := by
        have h1 := (Array.getElem?_eq_some_iff.1 (unhide HROW)).1
        have h2 := unhide HZ1
        have h3 := hb3.size
        exact ⟨by omega, by omega⟩
      have HWF := hide (wF_wf x)
      have HPL : Hid ((packD x).length = if wF x = 0 then 8 else 0) := by
        show (packD x).length = _
        by_cases e : wF x = 0
        · rw [if_pos e, packD_len e]
        · rw [if_neg e, packD, packList, if_neg (show ¬ writeFault x.kind x.id x.vec x.session x.seq = 0 from e)]; rfl
      simp only [intsRes]
      clear L O3 hb3 hOI nb5 hB13 hB15 HROW HRB HBB HN1 HZ1
      have p0 := (unhide HP5).at 0 _ rfl
      simp only [List.getElem_toArray, List.getElem_cons_zero] at p0
      by_cases hx0 : wF x = 0
      · have h8 : (packD x).length = 8 := by rw [unhide HPL, if_pos hx0]
        have HNX := hide (unhide HNX0 hx0)
        obtain ⟨CS, hCS⟩ : ∃ CS, CS = (packD x).map (Value.int .i64) := ⟨_, rfl⟩
        have hcs8 : CS.length = 8 := by rw [hCS, List.length_map, h8]
        have K1 : Hid (CS.length = Nat.min 8 (8 * ws.length - 8 * k)) := by show CS.length = _; rw [hcs8]; exact (Nat.min_eq_left (by omega)).symm
        have K3 : Hid (8 * k + CS.length ≤ ((packs (ws.take k)).map (Value.int .i64) ++ List.replicate (8 * (ws.length - k)) (Value.int .i64 0)).length) := by show _ ≤ _; rw [unhide HCL, hcs8]; omega
        have K4 : Hid (∀ v ∈ CS, v.oneCell' = true) := by rw [hCS]; intro v hv; obtain ⟨z, -, rfl⟩ := List.mem_map.1 hv; rfl
        have K5 : Hid (splice ((packs (ws.take k)).map (Value.int .i64) ++ List.replicate (8 * (ws.length - k)) (Value.int .i64 0)) (8 * k) CS = (packs (ws.take (k + 1))).map (Value.int .i64) ++ List.replicate (8 * (ws.length - (k + 1))) (Value.int .i64 0)) := by
          show splice _ _ _ = _
          rw [hCS]
          refine unhide HSP (fun y hy => ?_) hx0
          obtain ⟨j, hj, rfl⟩ := List.getElem_of_mem hy
          rw [List.getElem_take]
          rw [List.length_take] at hj
          exact unhide HNX j (by omega) (by omega)
        have K2 : Hid (∀ W, Ext (fun q => q = g0) (w3.alloc (.cells #[.int .i64 (wF x), .slice a4 (packD x).length c4] 26)) W → 0 < CS.length → ∃ ad, a4 = some ad ∧ ∀ j v, CS[j]? = some v → W.cell? (ad.add j) = some v) := fun W hE hp => by
          rw [hCS]
          exact news_reads ((unhide HOI).lies.ext hE (fun q h1 h2 h3 => by have := (unhide HG1).1; omega)).reads (by omega)
        rw [h8] at HP5 HOI K2 HR5 HB5 HROW5 p0 ⊢
        rw [hx0] at HP5 HOI K2 HR5 HB5 HROW5 p0 ⊢
        clear HAT HNX0 HSP HZ hCS HPL HCL HWF HOI
        go_wp2_with fail
        clear p0
        generalize w3.alloc (.cells #[.int .i64 0, .slice a4 8 c4] 26) = W5 at *
        have hRow : W5.drew.heap[g0]? = some (.cells ((packs (ws.take k)).map (Value.int .i64) ++ List.replicate (8 * (ws.length - k)) (Value.int .i64 0)).toArray 2 (0, 0)) := unhide HROW5
        have HPB : Hid (g0 < w3.heap.size) := (unhide HG1).2
        refine wp_region_noPanic ?_
        refine wp_region_held_drew (S := fun w' => Ext (fun q => q = g0) W5 w') (by kernel_rfl) ⟨rfl, rfl, rfl, Nat.le_refl _, fun _ _ _ => rfl⟩ (fun hHeld => ?_)
        generalize W5.drew = wD at hHeld hRow ⊢
        refine wpAnyH_take (i := 0) (oi := { dst := some 30, op := Go.Op.move (Go.Operand.tmp 3), type := 24, pos := "l08_log.go:112", after := #[], guard := none }) (v := ?v0_1) rfl (by kernel_rfl) (by kernel_rfl) (by kernel_rfl) (fun _ _ _ h => h) (Or.inl ⟨by rfl, ?h0_1⟩) hHeld ?r0_1
        case h0_1 =>
          intro wS hSw
          (try dsimp only at hSw)
          go_simp
          try with_reducible rfl
        case r0_1 =>
        simp only [Act.put, List.setIfInBounds_toArray, List.set_cons_zero, List.set_cons_succ]
        refine wpAnyH_take (i := 1) (oi := { dst := some 31, op := Go.Op.move (Go.Operand.tmp 4), type := 3, pos := "l08_log.go:112", after := #[], guard := none }) (v := ?v1_2) rfl (by kernel_rfl) (by kernel_rfl) (by kernel_rfl) (fun _ _ _ h => h) (Or.inl ⟨by rfl, ?h1_2⟩) hHeld ?r1_2
        case h1_2 =>
          intro wS hSw
          (try dsimp only at hSw)
          go_simp
          try with_reducible rfl
        case r1_2 =>
        simp only [Act.put, List.setIfInBounds_toArray, List.set_cons_zero, List.set_cons_succ]
        refine wpAnyH_take (i := 2) (oi := { dst := some 32, op := Go.Op.binOp Go.BinOp.mul 3 (Go.Operand.const (Go.Value.int Go.IntKind.i64 8)) (Go.Operand.tmp 31) 3, type := 3, pos := "l08_log.go:112", after := #[{ on := 1, ground := Go.Ground.data }], guard := none }) (v := ?v2_3) rfl (by kernel_rfl) (by kernel_rfl) (by kernel_rfl) (fun _ _ _ h => h) (Or.inl ⟨by rfl, ?h2_3⟩) hHeld ?r2_3
        case h2_3 =>
          intro wS hSw
          clear hSw
          have hwr : IntKind.i64.wrap (8 * (k : Int)) = 8 * (k : Int) := by rw [IntKind.wrap_i64]; omega
          (try dsimp only at hSw)
          go_simp
          try with_reducible rfl
        case r2_3 =>
        simp only [Act.put, List.setIfInBounds_toArray, List.set_cons_zero, List.set_cons_succ]
        refine wpAnyH_take (i := 3) (oi := { dst := some 33, op := Go.Op.slice 24 (Go.Operand.tmp 30) (some (Go.Operand.tmp 32)) none none, type := 24, pos := "l08_log.go:112", after := #[{ on := 0, ground := Go.Ground.data }, { on := 2, ground := Go.Ground.data }], guard := none }) (v := ?v3_4) rfl (by kernel_rfl) (by kernel_rfl) (by kernel_rfl) (fun _ _ _ h => h) (Or.inl ⟨by rfl, ?h3_4⟩) hHeld ?r3_4
        case h3_4 =>
          intro wS hSw
          clear hSw
          have hwr : IntKind.i64.wrap (8 * (k : Int)) = 8 * (k : Int) := by rw [IntKind.wrap_i64]; omega
          have s1 : (8 : Int) * (k : Int) ≤ 8 * (ws.length : Int) := by omega
          have s3 : (0 : Int) ≤ 8 * (k : Int) := by omega
          have s4 : (8 * (k : Int)).toNat = 8 * k := by omega
          have s2 : ¬ 8 * ws.length = 8 * k := by omega
          (try dsimp only at hSw)
          go_simp
          try with_reducible rfl
        case r3_4 =>
        simp only [Act.put, List.setIfInBounds_toArray, List.set_cons_zero, List.set_cons_succ]
        refine wpAnyH_take (i := 4) (oi := { dst := some 34, op := Go.Op.fieldAddr 26 (Go.Operand.tmp 6) 1, type := 0, pos := "l08_log.go:112", after := #[], guard := none }) (v := ?v4_5) rfl (by kernel_rfl) (by kernel_rfl) (by kernel_rfl) (fun _ _ _ h => h) (Or.inl ⟨by rfl, ?h4_5⟩) hHeld ?r4_5
        case h4_5 =>
          intro wS hSw
          (try dsimp only at hSw)
          go_simp
          try with_reducible rfl
        case r4_5 =>
        simp only [Act.put, List.setIfInBounds_toArray, List.set_cons_zero, List.set_cons_succ]
        refine wpAnyH_take (i := 5) (oi := { dst := some 35, op := Go.Op.load 24 (Go.Operand.tmp 34), type := 24, pos := "l08_log.go:112", after := #[{ on := 4, ground := Go.Ground.data }], guard := none }) (v := ?v5_6) rfl (by kernel_rfl) (by kernel_rfl) (by kernel_rfl) (fun _ _ _ h => h) (Or.inl ⟨by rfl, ?h5_6⟩) hHeld ?r5_6
        case h5_6 =>
          intro wS hSw
          have y1 := ((unhide HP5).ext hSw (by have := unhide HPB; omega)).at 1 _ rfl
          simp only [List.getElem_toArray, List.getElem_cons_zero, List.getElem_cons_succ] at y1
          clear hSw
          (try dsimp only at hSw)
          go_simp
          try with_reducible rfl
        case r5_6 =>
        simp only [Act.put, List.setIfInBounds_toArray, List.set_cons_zero, List.set_cons_succ]
        refine wpAnyH_ready (rs := [6]) (by kernel_rfl) (by simp) ?_
        refine AllReadyH.cons (o := { dst := some 36, op := Go.Op.call { callee := Go.Callee.builtin Go.Builtin.copy, args := #[Go.Operand.tmp 33, Go.Operand.tmp 35], argTypes := #[24, 24] }, type := 3, pos := "l08_log.go:112", after := #[{ on := 3, ground := Go.Ground.data }, { on := 5, ground := Go.Ground.data }], guard := none }) rfl (fun K hK => ?_) AllReadyH.nil
        refine step_copy_ext rfl _ _ _ _ rfl 2 Try.underlying24 size_int (some ⟨g0, 8 * k, none⟩) a4 (8 * ws.length - 8 * k) (8 * ws.length - 8 * k) 8 c4 (by rfl) (by rfl) g0 (8 * k) _ 2 hRow CS (unhide K1) (fun hp => ⟨rfl, unhide K2 _ hHeld hp⟩) (unhide K3) (unhide K4) ?_
        intro w6 HG6 hE6
        refine hK.out _ _ (hHeld.trans hE6) (fun hHeld => ?_)
        clear hK K
        try simp only [Act.put, List.setIfInBounds_toArray, List.set_cons_zero, List.set_cons_succ]
        refine wpAnyH_done (by kernel_rfl) ?_ _
        refine NoPanic.normal ?_
        have HG9 : Hid (w6.heap[g0]? = some (.cells ((packs (ws.take (k + 1))).map (Value.int .i64) ++ List.replicate (8 * (ws.length - (k + 1))) (Value.int .i64 0)).toArray 2 (0, 0))) := by
          have hg := unhide HG6
          rw [unhide K5] at hg
          exact hg
        have HE9 := hide hHeld
        clear hHeld HG6 hE6 hRow
        go_wp2_with fail
        go_roundw
        case rel => exact ⟨k + 1, by omega, by go_num, unhide HNX, unhide HG9, (unhide HR5).ext (unhide HE9) (by have := unhide HPG; omega), (unhide HB5).trans ((unhide HE9).below (unhide HB5).size (fun q hq e => by have := unhide HPG; omega))⟩
        case measure => simp [intOf]; omega
      · have hd : (wF x != 0) = true := by simpa using hx0
        have hl0 : (packD x).length = 0 := by rw [unhide HPL, if_neg hx0]
        have HY : Hid (packAllR ws = ⟨wF x, []⟩) := by
          have e := unhide HAT hx0
          show packAllR ws = _
          rw [packAllR, if_neg hnn, e, if_neg hx0]
        have bR := unhide HR5
        have z0 := bR.at 0 _ rfl
        have z1 := bR.at 1 _ rfl
        have f0 := bR.soft 0
        have f1 := bR.soft 1
        have l0 := bR.lt
        simp only [List.getElem_toArray, List.getElem_cons_zero, List.getElem_cons_succ] at z0 z1
        clear HAT HNX0 HSP HZ HPL HCL HOI HP5 HROW5 HG1 hx0 bR HR5 hl0
        generalize wF x = c at *
        go_wp2_with fail
        refine bodyPost_ret (v := .agg #[.int .i64 c, .slice none 0 0]) (by simp [results, Try.results14, go_sem, z0, z1]) rfl ?_
        rw [unhide HY]
        exact ⟨[.int .i64 c, .slice none 0 0], rfl, own_isR (unhide HWF) nil_own, below_setAll (unhide HB5) w.heap.size 0 [.int .i64 c, .slice none 0 0] (Nat.le_refl _)⟩
    · obtain rfl : k = ws.length := by omega
      have hall : wsFrom ws = 0 := wsFrom_all ws fun j hj => hz j hj hj
      have HY : Hid (packAllR ws = ⟨0, packs ws⟩) := by show packAllR ws = _; rw [packAllR, if_neg hnn, if_pos hall]
      have hpl := packs_len ws (wsFrom_zero hall)
      rw [List.take_length, Nat.sub_self, Nat.mul_zero, List.replicate_zero, List.append_nil] at hrow
      have hO := full_own (n := 8 * ws.length) (base := g0) hrow (Nat.le_refl _) (by rw [List.length_map, hpl]) (by unfold maxLen; omega)
      have hOI := Lay.ownInts (zs := packs ws) (packs_wf ws) (by omega) (by rw [hpl]; exact hO)
      have HOI := hide hOI
      have HBB := hide hB
      have HRB := hide hR
      have z0 := hR.at 0 _ rfl
      have z1 := hR.at 1 _ rfl
      have f0 := hR.soft 0
      have f1 := hR.soft 1
      have l0 := hR.lt
      simp only [List.getElem_toArray, List.getElem_cons_zero, List.getElem_cons_succ] at z0 z1
      clear hz hrow hO hOI hB hR hall hpl
      go_wp2_with fail
      refine bodyPost_ret (v := .agg #[.int .i64 0, .slice (some ⟨g0, 0, none⟩) (8 * ws.length) (8 * ws.length)]) (by simp [results, Try.results14, go_sem, z0, z1]) rfl ?_
      rw [unhide HY]
      exact ⟨[.int .i64 0, .slice (some ⟨g0, 0, none⟩) (8 * ws.length) (8 * ws.length)], rfl, own_store (vs := [.int .i64 0, .slice (some ⟨g0, 0, none⟩) (8 * ws.length) (8 * ws.length)]) (own_isR (by decide) (unhide HOI)) (unhide HPG) (Nat.le_refl _), below_setAll (unhide HBB) w.heap.size 0 [.int .i64 0, .slice (some ⟨g0, 0, none⟩) (8 * ws.length) (8 * ws.length)] (Nat.le_refl _)⟩

set_option maxHeartbeats 400000 in
/-- PackAll of the program. -/
theorem implPackAll (v : Value) (ws : List DWrite) (w : World) (h : (Lay.sl Lay.tWrite).Reads w [v] ws) :
    Calls Try.prog 14 #[v] w fun e w' => ∃ cs, e = .returned (.agg cs.toArray) ∧ Lay.tIntsResult.OwnIn w' cs (packAllR ws) w.heap.size w'.heap.size ∧ Below w.heap.size w w' := by
  obtain ⟨ao, cap, rfl⟩ := open_sl h
  have hbig := h.big
  by_cases hn : 40 < ws.length
  · have HY : Hid (packAllR ws = ⟨2, []⟩) := by show packAllR ws = _; rw [packAllR, if_pos hn]
    clear h
    go_enter Try.func14, Try.ntmps14
    go_wp2_with fail
    refine bodyPost_ret (v := .agg #[.int .i64 2, .slice none 0 0]) (by simp [results, Try.results14, go_sem]) rfl ?_
    rw [unhide HY]
    exact ⟨[.int .i64 2, .slice none 0 0], rfl, own_isR (by decide) nil_own, (Below.refl _ _).alloc (Nat.le_refl _) _⟩
  · exact implPackAll_few ao cap ws w h (by omega)

end Go.Proofs.Ytipomhpimmnchaa

namespace Go.Proofs.Ytipomhpimmnchaa
open Go.RowKit

theorem vec_small {x : DWrite} (h : wF x = 0) : x.vec.length ≤ 3 := by
  obtain ⟨-, -, -, hk⟩ := writeFault_zero h
  rcases hk with ⟨-, hv⟩ | ⟨-, hv⟩
  · have := (vecFault_zero hv).1; omega
  · rw [hv]; simp
theorem ints_cnt (l : List Int) : cntAll Lay.int.cnt l = l.length := by
  induction l with
  | nil => rfl
  | cons y ys ih => simp only [cntAll, List.length_cons, ih]; show 1 + ys.length = _; omega
theorem writes_small {ws : List DWrite} (h : ∀ x ∈ ws, wF x = 0) : cntAll Lay.tWrite.cnt ws ≤ 10 * ws.length := by
  induction ws with
  | nil => simp [cntAll]
  | cons x xs ih =>
    have h1 := ih fun y hy => h y (List.mem_cons_of_mem _ hy)
    have h2 := vec_small (h x (by simp))
    have h3 : Lay.tWrite.cnt x = x.vec.length + 4 := by
      have e := ints_cnt x.vec
      show 1 + (1 + (cntAll Lay.int.cnt x.vec + (1 + 1))) = _
      omega
    simp only [cntAll, List.length_cons]
    omega
theorem readLog_few (zs : List Int) : Lay.tWritesResult.vcnt (readLogR zs) ≤ 100000000 := by
  rw [vcnt_WritesResult]
  show cntAll Lay.tWrite.cnt (readLogR zs).writes ≤ 100000000
  unfold readLogR
  split
  · exact Nat.zero_le _
  · have h1 := writes_small (readL_right zs)
    have h2 := cnt_le zs
    rw [read_len] at h1
    show cntAll Lay.tWrite.cnt (readL zs) ≤ 100000000
    omega
theorem packAll_few (ws : List DWrite) : Lay.tIntsResult.vcnt (packAllR ws) ≤ 100000000 := by
  rw [vcnt_IntsResult]
  show cntAll Lay.int.cnt (packAllR ws).list ≤ 100000000
  rw [ints_cnt]
  unfold packAllR
  split
  · exact Nat.zero_le _
  · split
    · rename_i h
      show (packs ws).length ≤ _
      rw [packs_len ws (wsFrom_zero h)]
      omega
    · exact Nat.zero_le _
theorem log_few (y : DLogResult) (h : y.log.sure.length + y.log.loose.length ≤ 100000000) : Lay.tLogResult.vcnt y ≤ 100000000 := by
  rw [vcnt_LogResult]
  show cntAll Lay.int.cnt y.log.sure + cntAll Lay.int.cnt y.log.loose ≤ 100000000
  rw [ints_cnt, ints_cnt]
  exact h

end Go.Proofs.Ytipomhpimmnchaa

namespace Go.Proofs.Ytipomhpimmnchaa
open Go.RowKit

theorem lawPackAll (v : Value) (ws : List DWrite) (w : World) (h : (Lay.sl Lay.tWrite).Reads w [v] ws) :
    Calls Try.prog 3 #[v] w fun e w' => e = .returned (.bool true) ∧ Below w.heap.size w w' := by
  by_cases hn : (Lay.sl Lay.tWrite).sz ws ≤ 1048576
  · refine lawx_PackAll v ws (packAllR ws) w h hn (fun W a ha => (specPackAll a ws W ha).mono fun e w' q => ?_) (fun W a ha => implPackAll a ws W ha) (packAll_few ws)
    obtain ⟨cs, q1, q2, q3⟩ := q
    exact ⟨cs, q1, q2.reads, q3⟩
  · exact lawover_PackAll v ws w h (by omega)

end Go.Proofs.Ytipomhpimmnchaa
