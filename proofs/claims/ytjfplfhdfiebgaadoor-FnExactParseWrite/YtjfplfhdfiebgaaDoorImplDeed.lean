/-
  deedOf of the program tells the deed of a write without a fault, or its fault; nothing old is written.
  No condition.
-/
import Derived.Test.YtjfplfhdfiebgaaDoorVecOf
import Derived.Test.YtjfplfhdfiebgaaDoorWrZero
namespace Go.Proofs.YtjfplfhdfiebgaaDoor
open Go.RowKit

/-- A put of three parts, and a drop, as deeds. -/
def putV (x y z : Int) : Value := .iface 70 (.agg #[.int .i64 x, .int .i64 y, .int .i64 z])
def dropV : Value := .iface 64 (.agg #[])
def deedV (k : Int) (zs : List Int) : Value := if k = 1 then putV (zs.getD 0 0) (zs.getD 1 0) (zs.getD 2 0) else dropV
def deedRes (k i : Int) (zs : List Int) (s q : Int) : Value := if writeFault k i zs s q = 0 then deedV k zs else .nilIface

def Bds (i s q : Int) : Prop := (1 ≤ i ∧ i ≤ 999) ∧ (1 ≤ s ∧ s ≤ 9) ∧ 1 ≤ q ∧ q ≤ 999
theorem bound_yes {i s q : Int} (h : Bds i s q) : boundB i s q = true := by
  obtain ⟨⟨a, b⟩, ⟨c, d⟩, e, f⟩ := h
  simp [boundB, a, b, c, d, e, f]
theorem bound_no {i s q : Int} (h : ¬ Bds i s q) : boundB i s q = false := by
  rw [Bool.eq_false_iff]
  intro hb
  simp only [boundB, Bool.and_eq_true, decide_eq_true_eq] at hb
  exact h ⟨hb.1, hb.2.1, hb.2.2⟩
theorem fault_out {k i s q : Int} {zs : List Int} (hk : kindB k zs.length = true) (h : ¬ Bds i s q) : writeFault k i zs s q = 3 := by
  rw [writeFault, hk, if_pos rfl, bound_no h]; rfl
theorem fault_drop {i s q : Int} (h : Bds i s q) : writeFault 2 i [] s q = 0 := by
  rw [writeFault, show kindB 2 ([] : List Int).length = true from rfl, if_pos rfl, bound_yes h]; rfl
theorem fault_in {k i s q : Int} {zs : List Int} (hk : kindB k zs.length = true) (h : Bds i s q) : writeFault k i zs s q = if k = 1 then vecFault zs else 0 := by
  rw [writeFault, hk, if_pos rfl, bound_yes h, if_pos rfl]

def ToldDeed (w w' : World) (e : Ending) (k i : Int) (zs : List Int) (s q : Int) : Prop := e = .returned (.tuple #[deedRes k i zs s q, .int .i64 (writeFault k i zs s q)]) ∧ Below w.heap.size w w'
theorem toldDeed_bad {w w' : World} {k i s q c : Int} {zs : List Int} (hc : writeFault k i zs s q = c) (h0 : c ≠ 0) (hb : Below w.heap.size w w') : ToldDeed w w' (.returned (.tuple #[.nilIface, .int .i64 c])) k i zs s q := by
  refine ⟨?_, hb⟩
  rw [deedRes, hc, if_neg h0]
theorem toldDeed_ok {w w' : World} {k i s q : Int} {zs : List Int} {v : Value} (hc : writeFault k i zs s q = 0) (hv : v = deedV k zs) (hb : Below w.heap.size w w') : ToldDeed w w' (.returned (.tuple #[v, .int .i64 0])) k i zs s q := by
  refine ⟨?_, hb⟩
  rw [deedRes, hc, if_pos rfl, hv]

theorem isIdC (n : Int) (w : World) : Calls Tryd.prog 36 #[.int .i64 n] w fun e w' => e = .returned (.bool (decide (1 ≤ n) && decide (n ≤ 999))) ∧ w' = w := by
  by_cases h1 : 1 ≤ n
  · have d1 : decide (1 ≤ n) = true := by simpa using h1
    rw [d1]
    cases d2 : decide (n ≤ 999) <;>
    · go_enter Tryd.func36, Tryd.ntmps36
      go_wp2
      go_ret
      exact ⟨rfl, rfl⟩
  · have d1 : decide (1 ≤ n) = false := by simpa using h1
    rw [d1]
    go_enter Tryd.func36, Tryd.ntmps36
    go_wp2
    go_ret
    exact ⟨rfl, rfl⟩
theorem isSessionC (n : Int) (w : World) : Calls Tryd.prog 37 #[.int .i64 n] w fun e w' => e = .returned (.bool (decide (1 ≤ n) && decide (n ≤ 9))) ∧ w' = w := by
  by_cases h1 : 1 ≤ n
  · have d1 : decide (1 ≤ n) = true := by simpa using h1
    rw [d1]
    cases d2 : decide (n ≤ 9) <;>
    · go_enter Tryd.func37, Tryd.ntmps37
      go_wp2
      go_ret
      exact ⟨rfl, rfl⟩
  · have d1 : decide (1 ≤ n) = false := by simpa using h1
    rw [d1]
    go_enter Tryd.func37, Tryd.ntmps37
    go_wp2
    go_ret
    exact ⟨rfl, rfl⟩
theorem isSeqC (n : Int) (w : World) : Calls Tryd.prog 38 #[.int .i64 n] w fun e w' => e = .returned (.bool (decide (1 ≤ n) && decide (n ≤ 999))) ∧ w' = w := by
  by_cases h1 : 1 ≤ n
  · have d1 : decide (1 ≤ n) = true := by simpa using h1
    rw [d1]
    cases d2 : decide (n ≤ 999) <;>
    · go_enter Tryd.func38, Tryd.ntmps38
      go_wp2
      go_ret
      exact ⟨rfl, rfl⟩
  · have d1 : decide (1 ≤ n) = false := by simpa using h1
    rw [d1]
    go_enter Tryd.func38, Tryd.ntmps38
    go_wp2
    go_ret
    exact ⟨rfl, rfl⟩

set_option maxHeartbeats 2000000 in
theorem deedOf_put_out (i : Int) (ao : Option Addr) (cap : Nat) (s q : Int) (zs : List Int) (w : World) (hb : ¬ Bds i s q) :
    Calls Tryd.prog 20 #[.agg #[.int .i64 1, .int .i64 i, .slice ao zs.length cap, .int .i64 s, .int .i64 q]] w fun e w' => ToldDeed w w' e 1 i zs s q := by
  have HB : Hid (∀ o, Below w.heap.size w (w.alloc o)) := fun o => (Below.refl _ _).alloc (Nat.le_refl _) o
  have HF : Hid (writeFault 1 i zs s q = 3) := fault_out rfl hb
  have hbb := bound_no hb
  unfold boundB at hbb
  clear hb
  cases dI : (decide (1 ≤ i) && decide (i ≤ 999)) with
  | false =>
    clear hbb
    go_enter Tryd.func20, Tryd.ntmps20
    go_wp2_with fail
    refine (isIdC i _).mono ?_
    rintro e w1 ⟨rfl, rfl⟩
    rw [dI]
    go_wp2_with fail
    go_ret2
    exact toldDeed_bad (unhide HF) (by omega) (unhide HB _)
  | true =>
    cases dS : (decide (1 ≤ s) && decide (s ≤ 9)) with
    | false =>
      clear hbb
      go_enter Tryd.func20, Tryd.ntmps20
      go_wp2_with fail
      refine (isIdC i _).mono ?_
      rintro e w1 ⟨rfl, rfl⟩
      rw [dI]
      go_wp2_with fail
      refine (isSessionC s _).mono ?_
      rintro e w1 ⟨rfl, rfl⟩
      rw [dS]
      go_wp2_with fail
      go_ret2
      exact toldDeed_bad (unhide HF) (by omega) (unhide HB _)
    | true =>
      have dQ : (decide (1 ≤ q) && decide (q ≤ 999)) = false := by rw [dI, dS] at hbb; simpa using hbb
      clear hbb
      go_enter Tryd.func20, Tryd.ntmps20
      go_wp2_with fail
      refine (isIdC i _).mono ?_
      rintro e w1 ⟨rfl, rfl⟩
      rw [dI]
      go_wp2_with fail
      refine (isSessionC s _).mono ?_
      rintro e w1 ⟨rfl, rfl⟩
      rw [dS]
      go_wp2_with fail
      refine (isSeqC q _).mono ?_
      rintro e w1 ⟨rfl, rfl⟩
      rw [dQ]
      go_wp2_with fail
      go_ret2
      exact toldDeed_bad (unhide HF) (by omega) (unhide HB _)

set_option maxHeartbeats 2000000 in
theorem deedOf_drop_out (i : Int) (ao : Option Addr) (cap : Nat) (s q : Int) (w : World) (hb : ¬ Bds i s q) :
    Calls Tryd.prog 20 #[.agg #[.int .i64 2, .int .i64 i, .slice ao 0 cap, .int .i64 s, .int .i64 q]] w fun e w' => ToldDeed w w' e 2 i [] s q := by
  have HB : Hid (∀ o, Below w.heap.size w (w.alloc o)) := fun o => (Below.refl _ _).alloc (Nat.le_refl _) o
  have HF : Hid (writeFault 2 i [] s q = 3) := fault_out rfl hb
  have hbb := bound_no hb
  unfold boundB at hbb
  clear hb
  cases dI : (decide (1 ≤ i) && decide (i ≤ 999)) with
  | false =>
    clear hbb
    go_enter Tryd.func20, Tryd.ntmps20
    go_wp2_with fail
    refine (isIdC i _).mono ?_
    rintro e w1 ⟨rfl, rfl⟩
    rw [dI]
    go_wp2_with fail
    go_ret2
    exact toldDeed_bad (unhide HF) (by omega) (unhide HB _)
  | true =>
    cases dS : (decide (1 ≤ s) && decide (s ≤ 9)) with
    | false =>
      clear hbb
      go_enter Tryd.func20, Tryd.ntmps20
      go_wp2_with fail
      refine (isIdC i _).mono ?_
      rintro e w1 ⟨rfl, rfl⟩
      rw [dI]
      go_wp2_with fail
      refine (isSessionC s _).mono ?_
      rintro e w1 ⟨rfl, rfl⟩
      rw [dS]
      go_wp2_with fail
      go_ret2
      exact toldDeed_bad (unhide HF) (by omega) (unhide HB _)
    | true =>
      have dQ : (decide (1 ≤ q) && decide (q ≤ 999)) = false := by rw [dI, dS] at hbb; simpa using hbb
      clear hbb
      go_enter Tryd.func20, Tryd.ntmps20
      go_wp2_with fail
      refine (isIdC i _).mono ?_
      rintro e w1 ⟨rfl, rfl⟩
      rw [dI]
      go_wp2_with fail
      refine (isSessionC s _).mono ?_
      rintro e w1 ⟨rfl, rfl⟩
      rw [dS]
      go_wp2_with fail
      refine (isSeqC q _).mono ?_
      rintro e w1 ⟨rfl, rfl⟩
      rw [dQ]
      go_wp2_with fail
      go_ret2
      exact toldDeed_bad (unhide HF) (by omega) (unhide HB _)

set_option maxHeartbeats 2000000 in
theorem deedOf_drop (i : Int) (ao : Option Addr) (cap : Nat) (s q : Int) (w : World) (hb : Bds i s q) :
    Calls Tryd.prog 20 #[.agg #[.int .i64 2, .int .i64 i, .slice ao 0 cap, .int .i64 s, .int .i64 q]] w fun e w' => ToldDeed w w' e 2 i [] s q := by
  have HB : Hid (∀ o, Below w.heap.size w (w.alloc o)) := fun o => (Below.refl _ _).alloc (Nat.le_refl _) o
  have HF : Hid (writeFault 2 i [] s q = 0) := fault_drop hb
  obtain ⟨⟨i1, i2⟩, ⟨s1, s2⟩, q1, q2⟩ := hb
  have dI : (decide (1 ≤ i) && decide (i ≤ 999)) = true := by simp [i1, i2]
  have dS : (decide (1 ≤ s) && decide (s ≤ 9)) = true := by simp [s1, s2]
  have dQ : (decide (1 ≤ q) && decide (q ≤ 999)) = true := by simp [q1, q2]
  go_enter Tryd.func20, Tryd.ntmps20
  go_wp2_with fail
  refine (isIdC i _).mono ?_
  rintro e w1 ⟨rfl, rfl⟩
  rw [dI]
  go_wp2_with fail
  refine (isSessionC s _).mono ?_
  rintro e w1 ⟨rfl, rfl⟩
  rw [dS]
  go_wp2_with fail
  refine (isSeqC q _).mono ?_
  rintro e w1 ⟨rfl, rfl⟩
  rw [dQ]
  go_wp2_with fail
  go_ret2
  exact toldDeed_ok (unhide HF) rfl (unhide HB _)

set_option maxHeartbeats 1000000 in
theorem deedOf_many (i : Int) (ao : Option Addr) (cap n : Nat) (s q : Int) (zs : List Int) (w : World) (hn : zs.length = n + 1) :
    Calls Tryd.prog 20 #[.agg #[.int .i64 2, .int .i64 i, .slice ao (n + 1) cap, .int .i64 s, .int .i64 q]] w fun e w' => ToldDeed w w' e 2 i zs s q := by
  have B0 : ∀ o, Below w.heap.size w (w.alloc o) := fun o => (Below.refl _ _).alloc (Nat.le_refl _) o
  have HB := hide B0
  have hF : writeFault 2 i zs s q = 1 := by
    have : kindB 2 zs.length = false := by simp [kindB]; omega
    rw [writeFault, this]; rfl
  have HF := hide hF
  clear B0 hF hn
  go_enter Tryd.func20, Tryd.ntmps20
  go_wp2
  go_ret2
  exact toldDeed_bad (unhide HF) (by omega) (unhide HB _)

set_option maxHeartbeats 1000000 in
theorem deedOf_none (k i : Int) (ao : Option Addr) (cap : Nat) (s q : Int) (zs : List Int) (w : World) (h1 : k ≠ 1) (h2 : k ≠ 2) :
    Calls Tryd.prog 20 #[.agg #[.int .i64 k, .int .i64 i, .slice ao zs.length cap, .int .i64 s, .int .i64 q]] w fun e w' => ToldDeed w w' e k i zs s q := by
  have B0 : ∀ o, Below w.heap.size w (w.alloc o) := fun o => (Below.refl _ _).alloc (Nat.le_refl _) o
  have HB := hide B0
  have hF : writeFault k i zs s q = 1 := by
    have : kindB k zs.length = false := by simp [kindB]; omega
    rw [writeFault, this]; rfl
  have HF := hide hF
  clear B0 hF
  go_enter Tryd.func20, Tryd.ntmps20
  go_wp2
  go_ret2
  exact toldDeed_bad (unhide HF) (by omega) (unhide HB _)

theorem vectorOf_any (v : Value) (zs : List Int) (w : World) (h : IsInts w v zs) :
    Calls Tryd.prog 39 #[v] w fun e w' => e = .returned (.tuple #[if vecFault zs = 0 then arr3 (zs.getD 0 0) (zs.getD 1 0) (zs.getD 2 0) else arr3 0 0 0, .int .i64 (vecFault zs)]) ∧ Below w.heap.size w w' := by
  by_cases hf : vecFault zs = 0
  · obtain ⟨hl, -⟩ := vecFault_zero hf
    match zs, hl with
    | [x, y, z], _ =>
      rw [if_pos hf]
      refine (vectorOf_ok v x y z w h hf).mono ?_
      rintro e w' ⟨rfl, hb⟩
      exact ⟨by rw [hf]; rfl, hb⟩
  · rw [if_neg hf]
    exact vectorOf_bad v zs w h hf

set_option maxHeartbeats 2000000 in
theorem deedOf_put (i : Int) (ao : Option Addr) (cap : Nat) (s q : Int) (zs : List Int) (w : World) (h : IsInts w (.slice ao zs.length cap) zs) (hb : Bds i s q) :
    Calls Tryd.prog 20 #[.agg #[.int .i64 1, .int .i64 i, .slice ao zs.length cap, .int .i64 s, .int .i64 q]] w fun e w' => ToldDeed w w' e 1 i zs s q := by
  have B0 : Below w.heap.size w (w.alloc (.cells #[.int .i64 1, .int .i64 i, .slice ao zs.length cap, .int .i64 s, .int .i64 q] 29)) := (Below.refl _ _).alloc (Nat.le_refl _) _
  have HB := hide B0
  have H := hide (h.later B0)
  clear h B0
  have HF : Hid (writeFault 1 i zs s q = vecFault zs) := fault_in rfl hb
  obtain ⟨⟨i1, i2⟩, ⟨s1, s2⟩, q1, q2⟩ := hb
  have dI : (decide (1 ≤ i) && decide (i ≤ 999)) = true := by simp [i1, i2]
  have dS : (decide (1 ≤ s) && decide (s ≤ 9)) = true := by simp [s1, s2]
  have dQ : (decide (1 ≤ q) && decide (q ≤ 999)) = true := by simp [q1, q2]
  go_enter Tryd.func20, Tryd.ntmps20
  go_wp2_with fail
  refine (isIdC i _).mono ?_
  rintro e w1 ⟨rfl, rfl⟩
  rw [dI]
  go_wp2_with fail
  refine (isSessionC s _).mono ?_
  rintro e w1 ⟨rfl, rfl⟩
  rw [dS]
  go_wp2_with fail
  refine (isSeqC q _).mono ?_
  rintro e w1 ⟨rfl, rfl⟩
  rw [dQ]
  go_wp2_with fail
  refine (vectorOf_any _ zs _ (unhide H)).mono ?_
  rintro e w1 ⟨rfl, hb1⟩
  have HB1 := hide ((unhide HB).trans (hb1.mono (unhide HB).size))
  have hz : w.heap.size ≤ w1.heap.size := (unhide HB1).size
  clear HB hb1 H
  generalize hV : vecFault zs = F at *
  by_cases hf : F = 0
  · subst hf
    rw [if_pos rfl]
    simp only [arr3]
    go_wp2_with fail
    go_ret2
    refine toldDeed_ok (unhide HF) ?_ ?_
    · rw [deedV, if_pos rfl]; rfl
    · exact (unhide HB1).alloc hz _
  · rw [if_neg hf]
    have hd : (F != 0) = true := by rw [bne_iff_ne]; exact hf
    have HN := hide hf
    clear hf
    simp only [arr3]
    go_wp2_with fail
    go_ret2
    exact toldDeed_bad (unhide HF) (unhide HN) ((unhide HB1).alloc hz _)

/-- deedOf of the program. -/
theorem implDeed (k i : Int) (v : Value) (s q : Int) (zs : List Int) (w : World) (h : IsInts w v zs) :
    Calls Tryd.prog 20 #[.agg #[.int .i64 k, .int .i64 i, v, .int .i64 s, .int .i64 q]] w fun e w' => ToldDeed w w' e k i zs s q := by
  have h' := h
  obtain ⟨ao, cap, rfl, -⟩ := h'
  by_cases h1 : k = 1
  · subst h1
    by_cases hb : Bds i s q
    · exact deedOf_put i ao cap s q zs w h hb
    · exact deedOf_put_out i ao cap s q zs w hb
  · by_cases h2 : k = 2
    · subst h2
      rcases Nat.eq_zero_or_pos zs.length with h0 | h0
      · obtain rfl : zs = [] := List.eq_nil_of_length_eq_zero h0
        by_cases hb : Bds i s q
        · exact deedOf_drop i ao cap s q w hb
        · exact deedOf_drop_out i ao cap s q w hb
      · obtain ⟨n, hn⟩ : ∃ n, zs.length = n + 1 := ⟨zs.length - 1, by omega⟩
        rw [hn]
        exact deedOf_many i ao cap n s q zs w hn
    · exact deedOf_none k i ao cap s q zs w h1 h2

end Go.Proofs.YtjfplfhdfiebgaaDoor
