/-
  Texts of this proof in one: ImplDeed, ImplPack, ImplInts, ImplClone, ImplUnpack, ImplReadLog, SpecOf8, ImplLogF, ImplJoined, CopyExt, ImplPackAll, ClearRow.
  Their conditions stand in their theorems.
-/
import Derived.Test.YtipomhpimmnchaaTq03
import Derived.Test.YtipomhpimmnchaaTq02
import Derived.Test.YtipomhpimmnchaaChecked
import Derived.BigQuiet
import Derived.Deep.QuietTactic
import Derived.WalkSmall
import Derived.Deep.RegionHeld3
import Derived.Deep.CutRange
import Derived.Laws.CopyOwn
import Derived.Test.YtipomhpimmnchaaTq01
import Derived.Lib.SliceRun

namespace Go.Proofs.Ytipomhpimmnchaa
open Go.RowKit

/-- A put of three parts, and a drop, as deeds. -/
def putV (x y z : Int) : Value := .iface 123 (.agg #[.int .i64 x, .int .i64 y, .int .i64 z])
def dropV : Value := .iface 119 (.agg #[])
def deedV (k : Int) (zs : List Int) : Value := if k = 1 then putV (zs.getD 0 0) (zs.getD 1 0) (zs.getD 2 0) else dropV
def deedRes (k i : Int) (zs : List Int) (s q : Int) : Value := if writeFault k i zs s q = 0 then deedV k zs else .nilIface

def Bds (i s q : Int) : Prop := (1 ≤ i ∧ i ≤ 999) ∧ (1 ≤ s ∧ s ≤ 9) ∧ 1 ≤ q ∧ q ≤ 999
theorem bound_yes {i s q : Int} (h : Bds i s q) : boundB i s q = true := by
  obtain ⟨⟨a, b⟩, ⟨c, d⟩, e, f⟩ := h
  simp [boundB, a, b, c, d, e, f]
theorem bound_no {i s q : Int} (h : ¬ Bds i s q) : boundB i s q = false := by
  rw [Bool.eq_false_iff]
  intro hb
  simp only [boundB, Bool.and_eq_true, decide_eq_true_eq] at hb
  exact h ⟨hb.1, hb.2.1, hb.2.2⟩
theorem fault_out {k i s q : Int} {zs : List Int} (hk : kindB k zs.length = true) (h : ¬ Bds i s q) : writeFault k i zs s q = 3 := by
  rw [writeFault, hk, if_pos rfl, bound_no h]; rfl
theorem fault_drop {i s q : Int} (h : Bds i s q) : writeFault 2 i [] s q = 0 := by
  rw [writeFault, show kindB 2 ([] : List Int).length = true from rfl, if_pos rfl, bound_yes h]; rfl
theorem fault_in {k i s q : Int} {zs : List Int} (hk : kindB k zs.length = true) (h : Bds i s q) : writeFault k i zs s q = if k = 1 then vecFault zs else 0 := by
  rw [writeFault, hk, if_pos rfl, bound_yes h, if_pos rfl]

def ToldDeed (w w' : World) (e : Ending) (k i : Int) (zs : List Int) (s q : Int) : Prop := e = .returned (.tuple #[deedRes k i zs s q, .int .i64 (writeFault k i zs s q)]) ∧ Below w.heap.size w w'
theorem toldDeed_bad {w w' : World} {k i s q c : Int} {zs : List Int} (hc : writeFault k i zs s q = c) (h0 : c ≠ 0) (hb : Below w.heap.size w w') : ToldDeed w w' (.returned (.tuple #[.nilIface, .int .i64 c])) k i zs s q := by
  refine ⟨?_, hb⟩
  rw [deedRes, hc, if_neg h0]
theorem toldDeed_ok {w w' : World} {k i s q : Int} {zs : List Int} {v : Value} (hc : writeFault k i zs s q = 0) (hv : v = deedV k zs) (hb : Below w.heap.size w w') : ToldDeed w w' (.returned (.tuple #[v, .int .i64 0])) k i zs s q := by
  refine ⟨?_, hb⟩
  rw [deedRes, hc, if_pos rfl, hv]

theorem isIdC (n : Int) (w : World) : Calls Try.prog 96 #[.int .i64 n] w fun e w' => e = .returned (.bool (decide (1 ≤ n) && decide (n ≤ 999))) ∧ w' = w := by
  by_cases h1 : 1 ≤ n
  · have d1 : decide (1 ≤ n) = true := by simpa using h1
    rw [d1]
    cases d2 : decide (n ≤ 999) <;>
    · go_enter Try.func96, Try.ntmps96
      go_wp2
      go_ret
      exact ⟨rfl, rfl⟩
  · have d1 : decide (1 ≤ n) = false := by simpa using h1
    rw [d1]
    go_enter Try.func96, Try.ntmps96
    go_wp2
    go_ret
    exact ⟨rfl, rfl⟩
theorem isSessionC (n : Int) (w : World) : Calls Try.prog 97 #[.int .i64 n] w fun e w' => e = .returned (.bool (decide (1 ≤ n) && decide (n ≤ 9))) ∧ w' = w := by
  by_cases h1 : 1 ≤ n
  · have d1 : decide (1 ≤ n) = true := by simpa using h1
    rw [d1]
    cases d2 : decide (n ≤ 9) <;>
    · go_enter Try.func97, Try.ntmps97
      go_wp2
      go_ret
      exact ⟨rfl, rfl⟩
  · have d1 : decide (1 ≤ n) = false := by simpa using h1
    rw [d1]
    go_enter Try.func97, Try.ntmps97
    go_wp2
    go_ret
    exact ⟨rfl, rfl⟩
theorem isSeqC (n : Int) (w : World) : Calls Try.prog 98 #[.int .i64 n] w fun e w' => e = .returned (.bool (decide (1 ≤ n) && decide (n ≤ 999))) ∧ w' = w := by
  by_cases h1 : 1 ≤ n
  · have d1 : decide (1 ≤ n) = true := by simpa using h1
    rw [d1]
    cases d2 : decide (n ≤ 999) <;>
    · go_enter Try.func98, Try.ntmps98
      go_wp2
      go_ret
      exact ⟨rfl, rfl⟩
  · have d1 : decide (1 ≤ n) = false := by simpa using h1
    rw [d1]
    go_enter Try.func98, Try.ntmps98
    go_wp2
    go_ret
    exact ⟨rfl, rfl⟩

set_option maxHeartbeats 2000000 in
theorem deedOf_put_out (i : Int) (ao : Option Addr) (cap : Nat) (s q : Int) (zs : List Int) (w : World) (hb : ¬ Bds i s q) :
    Calls Try.prog 84 #[.agg #[.int .i64 1, .int .i64 i, .slice ao zs.length cap, .int .i64 s, .int .i64 q]] w fun e w' => ToldDeed w w' e 1 i zs s q := by
  have HB : Hid (∀ o, Below w.heap.size w (w.alloc o)) := fun o => (Below.refl _ _).alloc (Nat.le_refl _) o
  have HF : Hid (writeFault 1 i zs s q = 3) := fault_out rfl hb
  have hbb := bound_no hb
  unfold boundB at hbb
  clear hb
  cases dI : (decide (1 ≤ i) && decide (i ≤ 999)) with
  | false =>
    clear hbb
    go_enter Try.func84, Try.ntmps84
    go_wp2_with fail
    refine (isIdC i _).mono ?_
    rintro e w1 ⟨rfl, rfl⟩
    rw [dI]
    go_wp2_with fail
    go_ret2
    exact toldDeed_bad (unhide HF) (by omega) (unhide HB _)
  | true =>
    cases dS : (decide (1 ≤ s) && decide (s ≤ 9)) with
    | false =>
      clear hbb
      go_enter Try.func84, Try.ntmps84
      go_wp2_with fail
      refine (isIdC i _).mono ?_
      rintro e w1 ⟨rfl, rfl⟩
      rw [dI]
      go_wp2_with fail
      refine (isSessionC s _).mono ?_
      rintro e w1 ⟨rfl, rfl⟩
      rw [dS]
      go_wp2_with fail
      go_ret2
      exact toldDeed_bad (unhide HF) (by omega) (unhide HB _)
    | true =>
      have dQ : (decide (1 ≤ q) && decide (q ≤ 999)) = false := by rw [dI, dS] at hbb; simpa using hbb
      clear hbb
      go_enter Try.func84, Try.ntmps84
      go_wp2_with fail
      refine (isIdC i _).mono ?_
      rintro e w1 ⟨rfl, rfl⟩
      rw [dI]
      go_wp2_with fail
      refine (isSessionC s _).mono ?_
      rintro e w1 ⟨rfl, rfl⟩
      rw [dS]
      go_wp2_with fail
      refine (isSeqC q _).mono ?_
      rintro e w1 ⟨rfl, rfl⟩
      rw [dQ]
      go_wp2_with fail
      go_ret2
      exact toldDeed_bad (unhide HF) (by omega) (unhide HB _)

set_option maxHeartbeats 2000000 in
theorem deedOf_drop_out (i : Int) (ao : Option Addr) (cap : Nat) (s q : Int) (w : World) (hb : ¬ Bds i s q) :
    Calls Try.prog 84 #[.agg #[.int .i64 2, .int .i64 i, .slice ao 0 cap, .int .i64 s, .int .i64 q]] w fun e w' => ToldDeed w w' e 2 i [] s q := by
  have HB : Hid (∀ o, Below w.heap.size w (w.alloc o)) := fun o => (Below.refl _ _).alloc (Nat.le_refl _) o
  have HF : Hid (writeFault 2 i [] s q = 3) := fault_out rfl hb
  have hbb := bound_no hb
  unfold boundB at hbb
  clear hb
  cases dI : (decide (1 ≤ i) && decide (i ≤ 999)) with
  | false =>
    clear hbb
    go_enter Try.func84, Try.ntmps84
    go_wp2_with fail
    refine (isIdC i _).mono ?_
    rintro e w1 ⟨rfl, rfl⟩
    rw [dI]
    go_wp2_with fail
    go_ret2
    exact toldDeed_bad (unhide HF) (by omega) (unhide HB _)
  | true =>
    cases dS : (decide (1 ≤ s) && decide (s ≤ 9)) with
    | false =>
      clear hbb
      go_enter Try.func84, Try.ntmps84
      go_wp2_with fail
      refine (isIdC i _).mono ?_
      rintro e w1 ⟨rfl, rfl⟩
      rw [dI]
      go_wp2_with fail
      refine (isSessionC s _).mono ?_
      rintro e w1 ⟨rfl, rfl⟩
      rw [dS]
      go_wp2_with fail
      go_ret2
      exact toldDeed_bad (unhide HF) (by omega) (unhide HB _)
    | true =>
      have dQ : (decide (1 ≤ q) && decide (q ≤ 999)) = false := by rw [dI, dS] at hbb; simpa using hbb
      clear hbb
      go_enter Try.func84, Try.ntmps84
      go_wp2_with fail
      refine (isIdC i _).mono ?_
      rintro e w1 ⟨rfl, rfl⟩
      rw [dI]
      go_wp2_with fail
      refine (isSessionC s _).mono ?_
      rintro e w1 ⟨rfl, rfl⟩
      rw [dS]
      go_wp2_with fail
      refine (isSeqC q _).mono ?_
      rintro e w1 ⟨rfl, rfl⟩
      rw [dQ]
      go_wp2_with fail
      go_ret2
      exact toldDeed_bad (unhide HF) (by omega) (unhide HB _)

set_option maxHeartbeats 2000000 in
theorem deedOf_drop (i : Int) (ao : Option Addr) (cap : Nat) (s q : Int) (w : World) (hb : Bds i s q) :
    Calls Try.prog 84 #[.agg #[.int .i64 2, .int .i64 i, .slice ao 0 cap, .int .i64 s, .int .i64 q]] w fun e w' => ToldDeed w w' e 2 i [] s q := by
  have HB : Hid (∀ o, Below w.heap.size w (w.alloc o)) := fun o => (Below.refl _ _).alloc (Nat.le_refl _) o
  have HF : Hid (writeFault 2 i [] s q = 0) := fault_drop hb
  obtain ⟨⟨i1, i2⟩, ⟨s1, s2⟩, q1, q2⟩ := hb
  have dI : (decide (1 ≤ i) && decide (i ≤ 999)) = true := by simp [i1, i2]
  have dS : (decide (1 ≤ s) && decide (s ≤ 9)) = true := by simp [s1, s2]
  have dQ : (decide (1 ≤ q) && decide (q ≤ 999)) = true := by simp [q1, q2]
  go_enter Try.func84, Try.ntmps84
  go_wp2_with fail
  refine (isIdC i _).mono ?_
  rintro e w1 ⟨rfl, rfl⟩
  rw [dI]
  go_wp2_with fail
  refine (isSessionC s _).mono ?_
  rintro e w1 ⟨rfl, rfl⟩
  rw [dS]
  go_wp2_with fail
  refine (isSeqC q _).mono ?_
  rintro e w1 ⟨rfl, rfl⟩
  rw [dQ]
  go_wp2_with fail
  go_ret2
  exact toldDeed_ok (unhide HF) rfl (unhide HB _)

set_option maxHeartbeats 1000000 in
theorem deedOf_many (i : Int) (ao : Option Addr) (cap n : Nat) (s q : Int) (zs : List Int) (w : World) (hn : zs.length = n + 1) :
    Calls Try.prog 84 #[.agg #[.int .i64 2, .int .i64 i, .slice ao (n + 1) cap, .int .i64 s, .int .i64 q]] w fun e w' => ToldDeed w w' e 2 i zs s q := by
  have B0 : ∀ o, Below w.heap.size w (w.alloc o) := fun o => (Below.refl _ _).alloc (Nat.le_refl _) o
  have HB := hide B0
  have hF : writeFault 2 i zs s q = 1 := by
    have : kindB 2 zs.length = false := by simp [kindB]; omega
    rw [writeFault, this]; rfl
  have HF := hide hF
  clear B0 hF hn
  go_enter Try.func84, Try.ntmps84
  go_wp2
  go_ret2
  exact toldDeed_bad (unhide HF) (by omega) (unhide HB _)

set_option maxHeartbeats 1000000 in
theorem deedOf_none (k i : Int) (ao : Option Addr) (cap : Nat) (s q : Int) (zs : List Int) (w : World) (h1 : k ≠ 1) (h2 : k ≠ 2) :
    Calls Try.prog 84 #[.agg #[.int .i64 k, .int .i64 i, .slice ao zs.length cap, .int .i64 s, .int .i64 q]] w fun e w' => ToldDeed w w' e k i zs s q := by
  have B0 : ∀ o, Below w.heap.size w (w.alloc o) := fun o => (Below.refl _ _).alloc (Nat.le_refl _) o
  have HB := hide B0
  have hF : writeFault k i zs s q = 1 := by
    have : kindB k zs.length = false := by simp [kindB]; omega
    rw [writeFault, this]; rfl
  have HF := hide hF
  clear B0 hF
  go_enter Try.func84, Try.ntmps84
  go_wp2
  go_ret2
  exact toldDeed_bad (unhide HF) (by omega) (unhide HB _)

theorem vectorOf_any (v : Value) (zs : List Int) (w : World) (h : IsInts w v zs) :
    Calls Try.prog 99 #[v] w fun e w' => e = .returned (.tuple #[if vecFault zs = 0 then arr3 (zs.getD 0 0) (zs.getD 1 0) (zs.getD 2 0) else arr3 0 0 0, .int .i64 (vecFault zs)]) ∧ Below w.heap.size w w' := by
  by_cases hf : vecFault zs = 0
  · obtain ⟨hl, -⟩ := vecFault_zero hf
    match zs, hl with
    | [x, y, z], _ =>
      rw [if_pos hf]
      refine (vectorOf_ok v x y z w h hf).mono ?_
      rintro e w' ⟨rfl, hb⟩
      exact ⟨by rw [hf]; rfl, hb⟩
  · rw [if_neg hf]
    exact vectorOf_bad v zs w h hf

set_option maxHeartbeats 2000000 in
theorem deedOf_put (i : Int) (ao : Option Addr) (cap : Nat) (s q : Int) (zs : List Int) (w : World) (h : IsInts w (.slice ao zs.length cap) zs) (hb : Bds i s q) :
    Calls Try.prog 84 #[.agg #[.int .i64 1, .int .i64 i, .slice ao zs.length cap, .int .i64 s, .int .i64 q]] w fun e w' => ToldDeed w w' e 1 i zs s q := by
  have B0 : Below w.heap.size w (w.alloc (.cells #[.int .i64 1, .int .i64 i, .slice ao zs.length cap, .int .i64 s, .int .i64 q] 58)) := (Below.refl _ _).alloc (Nat.le_refl _) _
  have HB := hide B0
  have H := hide (h.later B0)
  clear h B0
  have HF : Hid (writeFault 1 i zs s q = vecFault zs) := fault_in rfl hb
  obtain ⟨⟨i1, i2⟩, ⟨s1, s2⟩, q1, q2⟩ := hb
  have dI : (decide (1 ≤ i) && decide (i ≤ 999)) = true := by simp [i1, i2]
  have dS : (decide (1 ≤ s) && decide (s ≤ 9)) = true := by simp [s1, s2]
  have dQ : (decide (1 ≤ q) && decide (q ≤ 999)) = true := by simp [q1, q2]
  go_enter Try.func84, Try.ntmps84
  go_wp2_with fail
  refine (isIdC i _).mono ?_
  rintro e w1 ⟨rfl, rfl⟩
  rw [dI]
  go_wp2_with fail
  refine (isSessionC s _).mono ?_
  rintro e w1 ⟨rfl, rfl⟩
  rw [dS]
  go_wp2_with fail
  refine (isSeqC q _).mono ?_
  rintro e w1 ⟨rfl, rfl⟩
  rw [dQ]
  go_wp2_with fail
  refine (vectorOf_any _ zs _ (unhide H)).mono ?_
  rintro e w1 ⟨rfl, hb1⟩
  have HB1 := hide ((unhide HB).trans (hb1.mono (unhide HB).size))
  have hz : w.heap.size ≤ w1.heap.size := (unhide HB1).size
  clear HB hb1 H
  generalize hV : vecFault zs = F at *
  by_cases hf : F = 0
  · subst hf
    rw [if_pos rfl]
    simp only [arr3]
    go_wp2_with fail
    go_ret2
    refine toldDeed_ok (unhide HF) ?_ ?_
    · rw [deedV, if_pos rfl]; rfl
    · exact (unhide HB1).alloc hz _
  · rw [if_neg hf]
    have hd : (F != 0) = true := by rw [bne_iff_ne]; exact hf
    have HN := hide hf
    clear hf
    simp only [arr3]
    go_wp2_with fail
    go_ret2
    exact toldDeed_bad (unhide HF) (unhide HN) ((unhide HB1).alloc hz _)

/-- deedOf of the program. -/
theorem implDeed (k i : Int) (v : Value) (s q : Int) (zs : List Int) (w : World) (h : IsInts w v zs) :
    Calls Try.prog 84 #[.agg #[.int .i64 k, .int .i64 i, v, .int .i64 s, .int .i64 q]] w fun e w' => ToldDeed w w' e k i zs s q := by
  have h' := h
  obtain ⟨ao, cap, rfl, -⟩ := h'
  by_cases h1 : k = 1
  · subst h1
    by_cases hb : Bds i s q
    · exact deedOf_put i ao cap s q zs w h hb
    · exact deedOf_put_out i ao cap s q zs w hb
  · by_cases h2 : k = 2
    · subst h2
      rcases Nat.eq_zero_or_pos zs.length with h0 | h0
      · obtain rfl : zs = [] := List.eq_nil_of_length_eq_zero h0
        by_cases hb : Bds i s q
        · exact deedOf_drop i ao cap s q w hb
        · exact deedOf_drop_out i ao cap s q w hb
      · obtain ⟨n, hn⟩ : ∃ n, zs.length = n + 1 := ⟨zs.length - 1, by omega⟩
        rw [hn]
        exact deedOf_many i ao cap n s q zs w hn
    · exact deedOf_none k i ao cap s q zs w h1 h2

end Go.Proofs.Ytipomhpimmnchaa

namespace Go.Proofs.Ytipomhpimmnchaa
open Go.RowKit

theorem assertPut (v : Value) (w : World) : (Instr.typeAssert (.iface 123 v) 106 123 true).run Try.prog w = .ok (.tuple #[v, .bool true]) w := by kernel_rfl
theorem assertDrop (v : Value) (w : World) : (Instr.typeAssert (.iface 119 v) 106 123 true).run Try.prog w = .ok (.tuple #[.agg #[.int .i64 0, .int .i64 0, .int .i64 0], .bool false]) w := by kernel_rfl

theorem partsPut (x y z : Int) (w : World) : Calls Try.prog 85 #[putV x y z] w fun e w' => e = .returned (arr3 x y z) ∧ Below w.heap.size w w' := by
  simp only [putV]
  have a1 := assertPut
  have HB : Hid (∀ o p, Below w.heap.size w ((w.alloc o).alloc p)) := fun o p => ((Below.refl _ _).alloc (Nat.le_refl _) o).alloc (by simp) p
  go_enter Try.func85, Try.ntmps85
  go_wp2
  refine bodyPost_ret (v := arr3 x y z) (by simp [results, Try.results85, go_sem, arr3]) rfl ⟨rfl, ?_⟩
  exact unhide HB _ _
theorem partsDrop (w : World) : Calls Try.prog 85 #[dropV] w fun e w' => e = .returned (arr3 0 0 0) ∧ Below w.heap.size w w' := by
  simp only [dropV]
  have a1 := assertDrop
  go_enter Try.func85, Try.ntmps85
  go_wp2
  refine bodyPost_ret (v := arr3 0 0 0) (by simp [results, Try.results85, go_sem, arr3]) rfl ⟨rfl, ?_⟩
  exact (Below.refl _ _).alloc (Nat.le_refl _) _
set_option maxHeartbeats 1000000 in
theorem sealC (g cap : Nat) (a b c d x y z : Int) (w : World)
    (c0 : w.cell? ⟨g, 0, none⟩ = some (.int .i64 a)) (c1 : w.cell? ⟨g, 1, none⟩ = some (.int .i64 b)) (c2 : w.cell? ⟨g, 2, none⟩ = some (.int .i64 c)) (c3 : w.cell? ⟨g, 3, none⟩ = some (.int .i64 d))
    (c4 : w.cell? ⟨g, 4, none⟩ = some (.int .i64 x)) (c5 : w.cell? ⟨g, 5, none⟩ = some (.int .i64 y)) (c6 : w.cell? ⟨g, 6, none⟩ = some (.int .i64 z))
    (ba : 1 ≤ a ∧ a ≤ 2) (bb : 1 ≤ b ∧ b ≤ 999) (bc : 1 ≤ c ∧ c ≤ 9) (bd : 1 ≤ d ∧ d ≤ 999) (bx : -1000 ≤ x ∧ x ≤ 1000) (bY : -1000 ≤ y ∧ y ≤ 1000) (bz : -1000 ≤ z ∧ z ≤ 1000) :
    Calls Try.prog 86 #[.slice (some ⟨g, 0, none⟩) 7 cap] w fun e w' => e = .returned (.int .i64 (checkOf (packSum a b c d x y z))) ∧ Below w.heap.size w w' := by
  have hgl : g < w.heap.size := World.block_lt_of_cell? _ _ c0
  obtain ⟨a1, a2⟩ := ba
  obtain ⟨b1, b2⟩ := bb
  obtain ⟨e1, e2⟩ := bc
  obtain ⟨d1, d2⟩ := bd
  obtain ⟨m1, m2⟩ := bx
  obtain ⟨m3, m4⟩ := bY
  obtain ⟨m5, m6⟩ := bz
  have x0 : ∀ w : World, (Instr.index 124 (.agg #[.int .i64 1, .int .i64 3, .int .i64 5, .int .i64 7, .int .i64 11, .int .i64 13, .int .i64 17]) (.int .i64 0)).run Try.prog w = .ok (.int .i64 1) w := fun _ => by kernel_rfl
  have x1 : ∀ w : World, (Instr.index 124 (.agg #[.int .i64 1, .int .i64 3, .int .i64 5, .int .i64 7, .int .i64 11, .int .i64 13, .int .i64 17]) (.int .i64 1)).run Try.prog w = .ok (.int .i64 3) w := fun _ => by kernel_rfl
  have x2 : ∀ w : World, (Instr.index 124 (.agg #[.int .i64 1, .int .i64 3, .int .i64 5, .int .i64 7, .int .i64 11, .int .i64 13, .int .i64 17]) (.int .i64 2)).run Try.prog w = .ok (.int .i64 5) w := fun _ => by kernel_rfl
  have x3 : ∀ w : World, (Instr.index 124 (.agg #[.int .i64 1, .int .i64 3, .int .i64 5, .int .i64 7, .int .i64 11, .int .i64 13, .int .i64 17]) (.int .i64 3)).run Try.prog w = .ok (.int .i64 7) w := fun _ => by kernel_rfl
  have x4 : ∀ w : World, (Instr.index 124 (.agg #[.int .i64 1, .int .i64 3, .int .i64 5, .int .i64 7, .int .i64 11, .int .i64 13, .int .i64 17]) (.int .i64 4)).run Try.prog w = .ok (.int .i64 11) w := fun _ => by kernel_rfl
  have x5 : ∀ w : World, (Instr.index 124 (.agg #[.int .i64 1, .int .i64 3, .int .i64 5, .int .i64 7, .int .i64 11, .int .i64 13, .int .i64 17]) (.int .i64 5)).run Try.prog w = .ok (.int .i64 13) w := fun _ => by kernel_rfl
  have x6 : ∀ w : World, (Instr.index 124 (.agg #[.int .i64 1, .int .i64 3, .int .i64 5, .int .i64 7, .int .i64 11, .int .i64 13, .int .i64 17]) (.int .i64 6)).run Try.prog w = .ok (.int .i64 17) w := fun _ => by kernel_rfl
  go_enter Try.func86, Try.ntmps86
  go_wp2
  refine wp_loop_rounds 8 ?_
  rw [rounds_succ]
  go_wp2
  rw [rounds_succ]
  go_wp2
  rw [rounds_succ]
  go_wp2
  rw [rounds_succ]
  go_wp2
  rw [rounds_succ]
  go_wp2
  rw [rounds_succ]
  go_wp2
  rw [rounds_succ]
  go_wp2
  rw [rounds_succ]
  go_wp2
  go_ret
  refine ⟨?_, (Below.refl _ _).alloc (Nat.le_refl _) _⟩
  have hT := tmod_bd (a + 3 * b + 5 * c + 7 * d + 11 * x + 13 * y + 17 * z)
  have hW : wrap64 ((a + 3 * b + 5 * c + 7 * d + 11 * x + 13 * y + 17 * z).tmod 997 + 997) = (a + 3 * b + 5 * c + 7 * d + 11 * x + 13 * y + 17 * z).tmod 997 + 997 := by
    unfold wrap64
    omega
  simp [checkOf, packSum, hW]

theorem partsC (k : Int) (zs : List Int) (w : World) : Calls Try.prog 85 #[deedV k zs] w fun e w' => e = .returned (arr3 ((partsOf k zs).getD 0 0) ((partsOf k zs).getD 1 0) ((partsOf k zs).getD 2 0)) ∧ Below w.heap.size w w' := by
  by_cases hk : k = 1
  · simp only [deedV, partsOf, if_pos hk]
    exact partsPut _ _ _ w
  · simp only [deedV, partsOf, if_neg hk]
    exact partsDrop w

theorem partsBd {k i s q : Int} {zs : List Int} (h : writeFault k i zs s q = 0) : ∀ j, -1000 ≤ (partsOf k zs).getD j 0 ∧ (partsOf k zs).getD j 0 ≤ 1000 := by
  intro j
  obtain ⟨-, -, -, hk⟩ := writeFault_zero h
  rcases hk with ⟨rfl, hv⟩ | ⟨rfl, rfl⟩
  · obtain ⟨hl, -⟩ := vecFault_zero hv
    match zs, hl with
    | [x, y, z], _ =>
    obtain ⟨b1, b2, b3⟩ := fault3 hv
    rw [partsOf, if_pos rfl]
    match j with
    | 0 => exact b1
    | 1 => exact b2
    | 2 => exact b3
    | n + 3 => simp
  · rw [partsOf, if_neg (by omega)]
    match j with
    | 0 => simp
    | 1 => simp
    | 2 => simp
    | n + 3 => simp

set_option maxHeartbeats 2000000 in
theorem packOk (k i : Int) (ao : Option Addr) (cap : Nat) (s q : Int) (zs : List Int) (w : World) (h : IsInts w (.slice ao zs.length cap) zs) (hf : writeFault k i zs s q = 0) :
    Calls Try.prog 55 #[.agg #[.int .i64 k, .int .i64 i, .slice ao zs.length cap, .int .i64 s, .int .i64 q]] w fun e w' => ToldInts w w' e 0 (wordsOf k i zs s q) := by
  have B0 : Below w.heap.size w ((w.alloc (.cells #[.int .i64 k, .int .i64 i, .slice ao zs.length cap, .int .i64 s, .int .i64 q] 58)).alloc (.cells #[.int .i64 0, .slice none 0 0] 26)) := ((Below.refl _ _).alloc (Nat.le_refl _) _).alloc (by simp) _
  have bA : Box w.heap.size #[.int .i64 k, .int .i64 i, .slice ao zs.length cap, .int .i64 s, .int .i64 q] 58 ((w.alloc (.cells #[.int .i64 k, .int .i64 i, .slice ao zs.length cap, .int .i64 s, .int .i64 q] 58)).alloc (.cells #[.int .i64 0, .slice none 0 0] 26)) w.heap.size := (newBox (Nat.le_refl _)).alloc _
  have bR : Box w.heap.size #[.int .i64 0, .slice none 0 0] 26 ((w.alloc (.cells #[.int .i64 k, .int .i64 i, .slice ao zs.length cap, .int .i64 s, .int .i64 q] 58)).alloc (.cells #[.int .i64 0, .slice none 0 0] 26)) (w.heap.size + 1) := by
    have := newBox (lo := w.heap.size) (cs := #[.int .i64 0, .slice none 0 0]) (T := 26) (W := w.alloc (.cells #[.int .i64 k, .int .i64 i, .slice ao zs.length cap, .int .i64 s, .int .i64 q] 58)) (by simp)
    simpa using this
  have hz0 : ((w.alloc (.cells #[.int .i64 k, .int .i64 i, .slice ao zs.length cap, .int .i64 s, .int .i64 q] 58)).alloc (.cells #[.int .i64 0, .slice none 0 0] 26)).heap.size = w.heap.size + 2 := by simp
  have L := hide (implDeed k i _ s q zs _ (h.later B0))
  have hd : deedRes k i zs s q = deedV k zs := by rw [deedRes, if_pos hf]
  have HW : Hid (wordsOf k i zs s q = [k, i, s, q, (partsOf k zs).getD 0 0, (partsOf k zs).getD 1 0, (partsOf k zs).getD 2 0, checkOf (packSum k i s q ((partsOf k zs).getD 0 0) ((partsOf k zs).getD 1 0) ((partsOf k zs).getD 2 0))]) := rfl
  have PB := partsBd hf
  obtain ⟨i1, s1, q1, hk⟩ := writeFault_zero hf
  have k1 : 1 ≤ k ∧ k ≤ 2 := by omega
  have HD := hide hd
  have HF := hide hf
  clear h hd hf hk
  go_enter Try.func55, Try.ntmps55
  go_wp2_with fail
  generalize (w.alloc (.cells #[.int .i64 k, .int .i64 i, .slice ao zs.length cap, .int .i64 s, .int .i64 q] 58)).alloc (.cells #[.int .i64 0, .slice none 0 0] 26) = W0 at *
  refine (unhide L).mono ?_
  rintro e w1 ⟨rfl, hb1⟩
  rw [unhide HD, unhide HF]
  replace bA := bA.keep hb1
  replace bR := bR.keep hb1
  have HB1 := hide (B0.trans (hb1.mono B0.size))
  have hz1 : w.heap.size + 2 ≤ w1.heap.size := by have := hb1.size; omega
  clear hb1 B0 L HD HF
  obtain ⟨⟨a0, a1, a2, a3, a4⟩, -, al⟩ := bA.five
  obtain ⟨r0, r1, r2, r3⟩ := bR.two
  go_wp2_with fail
  have O1 : (w1.alloc (.cells #[.int .i64 k, .int .i64 i, .int .i64 s, .int .i64 q] 2)).ownsRow w1.heap.size 2 1 (.slice (some ⟨w1.heap.size, 0, none⟩) 4 4) 4 ([.int .i64 k, .int .i64 i, .int .i64 s, .int .i64 q]) := World.ownsRow_lit w1 _ 4 (Nat.le_refl _) (by unfold maxLen; omega) rfl
  refine (partsC k zs _).mono ?_
  rintro e w2 ⟨rfl, hb2⟩
  replace O1 := own_below O1 hb2
  have nb1 : Below w1.heap.size w1 (w1.alloc (.cells #[.int .i64 k, .int .i64 i, .int .i64 s, .int .i64 q] 2)) := (Below.refl _ _).alloc (Nat.le_refl _) _
  have HB2 := hide (nb1.trans (hb2.mono nb1.size))
  have hz2 : w1.heap.size < w2.heap.size := by have := hb2.size; simp at this; omega
  clear hb2 nb1 a0 a1 a2 a3 a4 r0 r1 r2 r3 bA
  have P0 := PB 0
  have P1 := PB 1
  have P2 := PB 2
  generalize (partsOf k zs).getD 0 0 = x at *
  generalize (partsOf k zs).getD 1 0 = y at *
  generalize (partsOf k zs).getD 2 0 = z at *
  clear PB
  have j0 : ∀ w : World, (Instr.index 110 (.agg #[.int .i64 x, .int .i64 y, .int .i64 z]) (.int .i64 0)).run Try.prog w = .ok (.int .i64 x) w := fun _ => by kernel_rfl
  have j1 : ∀ w : World, (Instr.index 110 (.agg #[.int .i64 x, .int .i64 y, .int .i64 z]) (.int .i64 1)).run Try.prog w = .ok (.int .i64 y) w := fun _ => by kernel_rfl
  have j2 : ∀ w : World, (Instr.index 110 (.agg #[.int .i64 x, .int .i64 y, .int .i64 z]) (.int .i64 2)).run Try.prog w = .ok (.int .i64 z) w := fun _ => by kernel_rfl
  simp only [arr3]
  go_wp2_with fail
  refine wp_loop_rounds 4 ?_
  rw [rounds_succ]
  go_wp2_with (at_builtin; refine wpList_append_int O1 x rfl _ _ rfl rfl rfl (by omega) (by omega) ?_)
  rintro g1 d1 w3 O2 - hb3 hl3 hz3
  replace HB2 := hide ((unhide HB2).trans hb3)
  clear O1 hb3
  go_wp2_with fail
  rw [rounds_succ]
  go_wp2_with (at_builtin; refine wpList_append_int O2 y rfl _ _ rfl rfl rfl (by omega) (by omega) ?_)
  rintro g2 d2 w4 O3 - hb4 hl4 hz4
  replace HB2 := hide ((unhide HB2).trans hb4)
  clear O2 hb4
  go_wp2_with fail
  rw [rounds_succ]
  go_wp2_with (at_builtin; refine wpList_append_int O3 z rfl _ _ rfl rfl rfl (by omega) (by omega) ?_)
  rintro g3 d3 w5 O4 - hb5 hl5 hz5
  replace HB2 := hide ((unhide HB2).trans hb5)
  clear O3 hb5
  go_wp2_with fail
  rw [rounds_succ]
  go_wp2_with fail
  have Lq := sealC g3 d3 k i s q x y z w5 (by rw [O4.cellAt 0 (by omega)]; rfl) (by rw [O4.cellAt 1 (by omega)]; rfl) (by rw [O4.cellAt 2 (by omega)]; rfl) (by rw [O4.cellAt 3 (by omega)]; rfl) (by rw [O4.cellAt 4 (by omega)]; rfl) (by rw [O4.cellAt 5 (by omega)]; rfl) (by rw [O4.cellAt 6 (by omega)]; rfl) k1 i1 s1 q1 P0 P1 P2
  refine Lq.mono ?_
  rintro e w6 ⟨rfl, hb6⟩
  replace O4 := own_below O4 hb6
  replace HB2 := hide ((unhide HB2).trans (hb6.mono (by omega)))
  have hz6 := hb6.size
  clear hb6 Lq j0 j1 j2
  generalize checkOf (packSum k i s q x y z) = c at *
  go_wp2_with (at_builtin; refine wpList_append_int O4 c rfl _ _ rfl rfl rfl (by omega) (by omega) ?_)
  rintro g4 d4 w7 O5 - hb7 hl7 hz7
  replace HB2 := hide ((unhide HB2).trans hb7)
  clear O4 hb7
  obtain ⟨r0, r1, r2, r3⟩ := (bR.keep (unhide HB2)).two
  go_wp2_with fail
  refine bodyPost_ret (v := intsRes 0 (.slice (some ⟨g4, 0, none⟩) 8 d4)) (by simp [results, Try.results55, go_sem, intsRes, r0, r1]) rfl ?_
  rw [unhide HW]
  refine ⟨_, rfl, own_mono (b := w1.heap.size) (by omega) ?_, (((unhide HB1).trans ((unhide HB2).mono (by omega))).setCell (by simp) _).setCell (by simp) _⟩
  exact own_setC (own_setC O5 (by simp; omega) _) (by simp; omega) _

set_option maxHeartbeats 2000000 in
theorem packBad (k i : Int) (ao : Option Addr) (cap : Nat) (s q : Int) (zs : List Int) (w : World) (h : IsInts w (.slice ao zs.length cap) zs) (hf : writeFault k i zs s q ≠ 0) :
    Calls Try.prog 55 #[.agg #[.int .i64 k, .int .i64 i, .slice ao zs.length cap, .int .i64 s, .int .i64 q]] w fun e w' => ToldInts w w' e (writeFault k i zs s q) [] := by
  have B0 : Below w.heap.size w ((w.alloc (.cells #[.int .i64 k, .int .i64 i, .slice ao zs.length cap, .int .i64 s, .int .i64 q] 58)).alloc (.cells #[.int .i64 0, .slice none 0 0] 26)) := ((Below.refl _ _).alloc (Nat.le_refl _) _).alloc (by simp) _
  have bR : Box w.heap.size #[.int .i64 0, .slice none 0 0] 26 ((w.alloc (.cells #[.int .i64 k, .int .i64 i, .slice ao zs.length cap, .int .i64 s, .int .i64 q] 58)).alloc (.cells #[.int .i64 0, .slice none 0 0] 26)) (w.heap.size + 1) := by
    have := newBox (lo := w.heap.size) (cs := #[.int .i64 0, .slice none 0 0]) (T := 26) (W := w.alloc (.cells #[.int .i64 k, .int .i64 i, .slice ao zs.length cap, .int .i64 s, .int .i64 q] 58)) (by simp)
    simpa using this
  have L := hide (implDeed k i _ s q zs _ (h.later B0))
  have HD : Hid (deedRes k i zs s q = .nilIface) := by
    show deedRes k i zs s q = .nilIface
    rw [deedRes, if_neg hf]
  have hne : (writeFault k i zs s q != 0) = true := by rw [bne_iff_ne]; exact hf
  clear h hf
  go_enter Try.func55, Try.ntmps55
  go_wp2_with fail
  generalize (w.alloc (.cells #[.int .i64 k, .int .i64 i, .slice ao zs.length cap, .int .i64 s, .int .i64 q] 58)).alloc (.cells #[.int .i64 0, .slice none 0 0] 26) = W0 at *
  refine (unhide L).mono ?_
  rintro e w1 ⟨rfl, hb1⟩
  rw [unhide HD]
  replace bR := bR.keep hb1
  have HB1 := hide (B0.trans (hb1.mono B0.size))
  clear hb1 B0 L HD
  obtain ⟨r0, r1, r2, r3⟩ := bR.two
  generalize hF : writeFault k i zs s q = F at *
  have HF := hide hF
  clear hF
  go_wp2_with fail
  refine bodyPost_ret (v := intsRes F (.slice none 0 0)) (by simp [results, Try.results55, go_sem, intsRes, r0, r1]) rfl ?_
  rw [unhide HF]
  refine toldInts_nil ?_
  exact ((unhide HB1).setCell (by simp) _).setCell (by simp) _

/-- PackWrite of the program. -/
theorem implPack (k i : Int) (v : Value) (s q : Int) (zs : List Int) (w : World) (h : IsInts w v zs) :
    Calls Try.prog 55 #[.agg #[.int .i64 k, .int .i64 i, v, .int .i64 s, .int .i64 q]] w fun e w' => ToldInts w w' e (writeFault k i zs s q) (packList k i zs s q) := by
  have h' := h
  obtain ⟨ao, cap, rfl, -⟩ := h'
  by_cases hf : writeFault k i zs s q = 0
  · rw [packList, if_pos hf, hf]
    exact packOk k i ao cap s q zs w h hf
  · rw [packList, if_neg hf]
    exact packBad k i ao cap s q zs w h hf

end Go.Proofs.Ytipomhpimmnchaa

namespace Go.Proofs.Ytipomhpimmnchaa
open Go.RowKit

theorem ne_at_slEqual {ps qs : List Int} {k : Nat} (h : ps.getD k 0 ≠ qs.getD k 0) : decide (ps = qs) = false := by
  simp only [decide_eq_false_iff_not]
  rintro rfl
  exact h rfl
theorem eq_all_slEqual {ps qs : List Int} (hl : ps.length = qs.length) (h : ∀ j, j < ps.length → ps.getD j 0 = qs.getD j 0) : decide (ps = qs) = true := by
  simp only [decide_eq_true_eq]
  refine List.ext_getElem hl fun j h1 h2 => ?_
  have := h j h1
  simpa [List.getD, h1, h2] using this

set_option maxHeartbeats 800000 in
theorem slEqual_pos (b off cap b2 off2 cap2 : Nat) (ps qs : List Int) (w : World) (hl : ps.length = qs.length) (hn : ps.length ≤ 9223372036854775807) (hc : ∀ j, j < ps.length → w.cell? ⟨b, off + j, none⟩ = some (.int .i64 (ps.getD j 0)))
    (hc2 : ∀ j, j < ps.length → w.cell? ⟨b2, off2 + j, none⟩ = some (.int .i64 (qs.getD j 0))) :
    Calls Try.prog 89 #[.slice (some ⟨b, off, none⟩) ps.length cap, .slice (some ⟨b2, off2, none⟩) ps.length cap2] w fun e w' => e = .returned (.bool (decide (ps = qs))) ∧ Below w.heap.size w w' := by
  have HL := hide hl
  clear hl
  go_enter Try.func89, Try.ntmps89
  go_wp2
  go_loopw [13] (fun i wr => ∃ k : Nat, k ≤ ps.length ∧ i = .int .i64 k ∧ Below w.heap.size w wr ∧ ∀ j, j < k → ps.getD j 0 = qs.getD j 0) (fun i _ => ps.length - (intOf i).toNat)
  case atStart => exact ⟨0, Nat.zero_le _, rfl, Below.refl _ _, fun j hj => by omega⟩
  case round =>
    obtain ⟨k, hk, rfl, hB, hq⟩ := hrel
    by_cases hlt : k < ps.length
    · have hcx : wr.cell? ⟨b, off + k, none⟩ = some (.int .i64 (ps.getD k 0)) := (hB.cell (World.block_lt_of_cell? _ _ (hc k hlt))).trans (hc k hlt)
      have hcy : wr.cell? ⟨b2, off2 + k, none⟩ = some (.int .i64 (qs.getD k 0)) := (hB.cell (World.block_lt_of_cell? _ _ (hc2 k hlt))).trans (hc2 k hlt)
      have HQ := hide hq
      have HB := hide hB
      clear hc hc2 hq hB
      by_cases he : ps.getD k 0 = qs.getD k 0
      · have HE := hide he
        rw [← he] at hcy
        clear he
        generalize ps.getD k 0 = x at hcx hcy
        have hxx : (x != x) = false := by simp
        go_wp2
        go_quiet (fail)
        go_wp2
        go_roundw
        case rel =>
          refine ⟨k + 1, by omega, by go_num, below_drewN (unhide HB) _, fun j hj => ?_⟩
          by_cases hjk : j < k
          · exact unhide HQ j hjk
          · obtain rfl : j = k := by omega
            exact unhide HE
        case measure => simp [intOf]; omega
      · have HN := hide (ne_at_slEqual he)
        have hxy : (ps.getD k 0 != qs.getD k 0) = true := by rw [bne_iff_ne]; exact he
        clear he
        generalize ps.getD k 0 = x at hcx hxy
        generalize qs.getD k 0 = y at hcy hxy
        go_wp2
        go_quiet (fail)
        go_wp2
        go_ret
        exact ⟨by rw [unhide HN]; rfl, below_drewN (unhide HB) _⟩
    · obtain rfl : k = ps.length := by omega
      have HN := hide (eq_all_slEqual (unhide HL) hq)
      have HB := hide hB
      clear hc hc2 hq hB
      go_wp2
      go_ret
      exact ⟨by rw [unhide HN]; rfl, unhide HB⟩
set_option maxHeartbeats 400000 in
theorem slEqual_len (ao ao2 : Option Addr) (n m cap cap2 : Nat) (w : World) (h : n ≠ m) :
    Calls Try.prog 89 #[.slice ao n cap, .slice ao2 m cap2] w fun e w' => e = .returned (.bool false) ∧ Below w.heap.size w w' := by
  have hd : ((n : Int) != (m : Int)) = true := by rw [bne_iff_ne]; omega
  go_enter Try.func89, Try.ntmps89
  go_wp2
  go_ret
  exact ⟨rfl, Below.refl _ _⟩
theorem slEqual_zero (ao ao2 : Option Addr) (cap cap2 : Nat) (w : World) :
    Calls Try.prog 89 #[.slice ao 0 cap, .slice ao2 0 cap2] w fun e w' => e = .returned (.bool true) ∧ Below w.heap.size w w' := by
  go_enter Try.func89, Try.ntmps89
  go_wp2
  refine wp_loop_rounds 1 ?_
  rw [rounds_succ]
  go_wp2
  go_ret
  exact ⟨rfl, Below.refl _ _⟩
/-- Whether two lists of numbers are the same. -/
theorem slEqual (v v2 : Value) (ps qs : List Int) (w : World) (h : IsInts w v ps) (h2 : IsInts w v2 qs) (hn : ps.length ≤ 9223372036854775807) :
    Calls Try.prog 89 #[v, v2] w fun e w' => e = .returned (.bool (decide (ps = qs))) ∧ Below w.heap.size w w' := by
  obtain ⟨ao, cap, rfl, hwf, hc⟩ := h
  obtain ⟨ao2, cap2, rfl, _, hc2⟩ := h2
  by_cases hl : ps.length = qs.length
  · by_cases hp : 0 < ps.length
    · obtain ⟨b, off, rfl, hc1⟩ := hc hp
      obtain ⟨b2, off2, rfl, hc3⟩ := hc2 (by omega)
      rw [← hl] at hc3 ⊢
      exact slEqual_pos b off cap b2 off2 cap2 ps qs w hl hn hc1 hc3
    · obtain rfl : ps = [] := List.eq_nil_of_length_eq_zero (by omega)
      obtain rfl : qs = [] := List.eq_nil_of_length_eq_zero (by simpa using hl.symm)
      exact slEqual_zero ao ao2 cap cap2 w
  · rw [show decide (ps = qs) = false by simp only [decide_eq_false_iff_not]; rintro rfl; exact hl rfl]
    exact slEqual_len ao ao2 _ _ cap cap2 w hl

end Go.Proofs.Ytipomhpimmnchaa

namespace Go.Proofs.Ytipomhpimmnchaa
open Go.RowKit

set_option maxHeartbeats 400000 in
theorem slClone (ad : Addr) (cap : Nat) (zs : List Int) (w : World) (h : IsInts w (.slice (some ad) zs.length cap) zs) (hn : zs.length ≤ 100000000) :
    Calls Try.prog 68 #[.slice (some ad) zs.length cap] w fun e w' => ∃ v', e = .returned v' ∧ w'.ownsRow w.heap.size 2 1 v' zs.length (zs.map (Value.int .i64)) ∧ Below w.heap.size w w' := by
  have nb : Below w.heap.size w (w.alloc (.cells #[] 2)) := (Below.refl _ _).alloc (Nat.le_refl _) _
  have O : (w.alloc (.cells #[] 2)).ownsRow w.heap.size 2 1 (.slice (some ⟨w.heap.size, 0, none⟩) 0 0) 0 [] := World.ownsRow_lit w _ 0 (Nat.le_refl _) (by unfold maxLen; omega) rfl
  have h1 := h.later nb
  have HB := hide nb
  have hnil : ∀ w : World, (binOp .eql 24 (.slice (some ad) zs.length cap) (.slice none 0 0)).run Try.prog w = .ok (.bool false) w := fun _ => by kernel_rfl
  clear nb h
  go_enter Try.func68, Try.ntmps68
  go_wp2_with (at_builtin; refine wpList_append_ints O h1 rfl _ _ rfl rfl rfl (by omega) (by simp) ?_)
  rintro v' w' O2 - hb
  have HB2 := hide ((unhide HB).trans hb)
  clear O h1 hb HB
  go_wp2_with fail
  go_ret
  exact ⟨v', rfl, by simpa using O2, unhide HB2⟩

end Go.Proofs.Ytipomhpimmnchaa

namespace Go.Proofs.Ytipomhpimmnchaa
open Go.RowKit

def ToldW (w w' : World) (e : Ending) (y : DWriteResult) : Prop := ∃ cs, e = .returned (.agg cs.toArray) ∧ Lay.tWriteResult.OwnIn w' cs y w.heap.size w'.heap.size ∧ Below w.heap.size w w'

/-- The answer stored into the result's own block. -/
theorem toldW_store {w w4 : World} {cs vs : List Value} {y : DWriteResult} {hi : Nat} (h : Lay.tWriteResult.OwnIn w4 cs y (w.heap.size + 1) hi) (hhi : hi ≤ w4.heap.size) (hb : Below w.heap.size w w4) : ToldW w (setAll w4 w.heap.size 0 vs) (.returned (.agg cs.toArray)) y := by
  refine ⟨cs, rfl, ?_, below_setAll hb _ _ _ (Nat.le_refl _)⟩
  rw [size_setAll]
  exact (h.ext (ext_setAll (fun q => q = w.heap.size) (Ext.refl _ _) _ _ _ rfl) (fun q h1 h2 h3 => by omega)).mono (by omega) hhi

set_option maxHeartbeats 400000 in
theorem implUnpack_len (ao : Option Addr) (n cap : Nat) (w : World) (h : n ≠ 8) :
    Calls Try.prog 59 #[.slice ao n cap] w fun e w' => ToldW w w' e ⟨5, zeroW⟩ := by
  have hd : ((n : Int) != 8) = true := by rw [bne_iff_ne]; omega
  have HB : Hid (∀ o, Below w.heap.size w (w.alloc o)) := fun o => (Below.refl _ _).alloc (Nat.le_refl _) o
  go_enter Try.func59, Try.ntmps59
  go_wp2
  refine bodyPost_ret (v := .agg #[.int .i64 5, .int .i64 0, .int .i64 0, .slice none 0 0, .int .i64 0, .int .i64 0]) (by simp [results, Try.results59, go_sem]) rfl ?_
  exact ⟨[.int .i64 5, .int .i64 0, .int .i64 0, .slice none 0 0, .int .i64 0, .int .i64 0], rfl, own_badW rfl, unhide HB _⟩

set_option maxRecDepth 100000 in
set_option maxHeartbeats 4000000 in
theorem implUnpack_put (b off cap : Nat) (i s q x y z c : Int) (w : World) (h : IsInts w (.slice (some ⟨b, off, none⟩) 8 cap) [1, i, s, q, x, y, z, c]) (hcap : 8 ≤ cap) :
    Calls Try.prog 59 #[.slice (some ⟨b, off, none⟩) 8 cap] w fun e w' => ToldW w w' e (unpackR [1, i, s, q, x, y, z, c]) := by
  have hc : ∀ j, j < 8 → w.cell? ⟨b, off + j, none⟩ = some (.int .i64 ([1, i, s, q, x, y, z, c].getD j 0)) := by
    obtain ⟨ao, cp, e, -, hc⟩ := h
    obtain ⟨b', off', rfl, hc1⟩ := hc (by simp)
    simp only [Value.slice.injEq, Option.some.injEq, Addr.mk.injEq, and_true] at e
    obtain ⟨⟨rfl, rfl⟩, -, -⟩ := e
    exact hc1
  have c0 : w.cell? ⟨b, off, none⟩ = some (.int .i64 1) := hc 0 (by omega)
  have c1 : w.cell? ⟨b, off + 1, none⟩ = some (.int .i64 i) := hc 1 (by omega)
  have c2 : w.cell? ⟨b, off + 2, none⟩ = some (.int .i64 s) := hc 2 (by omega)
  have c3 : w.cell? ⟨b, off + 3, none⟩ = some (.int .i64 q) := hc 3 (by omega)
  have hwf := h.wf
  have f0 : (Lit.int .i64 1).wf = true := hwf 1 (by simp)
  have f1 : (Lit.int .i64 i).wf = true := hwf i (by simp)
  have f2 : (Lit.int .i64 s).wf = true := hwf s (by simp)
  have f3 : (Lit.int .i64 q).wf = true := hwf q (by simp)
  have HV : Hid (∀ u ∈ [x, y, z], (Lit.int .i64 u).wf = true) := fun u hu => hwf u (by simp at hu; rcases hu with rfl | rfl | rfl <;> simp)
  have hv : IsInts w (.slice (some ⟨b, off + 4, none⟩) 3 (cap - 4)) [x, y, z] := by
    refine ⟨_, _, rfl, fun u hu => hwf u (by simp at hu; rcases hu with rfl | rfl | rfl <;> simp), fun _ => ⟨b, off + 4, rfl, fun j hj => ?_⟩⟩
    have := hc (4 + j) (by simp at hj; omega)
    rw [Nat.add_assoc, this]
    simp at hj
    rcases j with _ | _ | _ | j <;> first | rfl | omega
  have HF := hide (And.intro f0 (And.intro f1 (And.intro f2 f3)))
  have H := hide h
  clear h hc hwf f0 f1 f2 f3
  have nb : Below w.heap.size w (w.alloc (.cells #[.int .i64 0, .int .i64 0, .int .i64 0, .slice none 0 0, .int .i64 0, .int .i64 0] 86)) := (Below.refl _ _).alloc (Nat.le_refl _) _
  have bR : Box w.heap.size #[.int .i64 0, .int .i64 0, .int .i64 0, .slice none 0 0, .int .i64 0, .int .i64 0] 86 (w.alloc (.cells #[.int .i64 0, .int .i64 0, .int .i64 0, .slice none 0 0, .int .i64 0, .int .i64 0] 86)) w.heap.size := newBox (Nat.le_refl _)
  have d0 := cell_keep nb c0
  have d1 := cell_keep nb c1
  have d2 := cell_keep nb c2
  have d3 := cell_keep nb c3
  clear c0 c1 c2 c3
  go_enter Try.func59, Try.ntmps59
  go_wp2_with fail
  generalize w.alloc (.cells #[.int .i64 0, .int .i64 0, .int .i64 0, .slice none 0 0, .int .i64 0, .int .i64 0] 86) = W0 at *
  first
    | go_region_held3 (fun w' => w'.cell? ⟨b, off, none⟩ = some (.int .i64 1) ∧ w'.cell? ⟨b, off + 1, none⟩ = some (.int .i64 i) ∧ w'.cell? ⟨b, off + 2, none⟩ = some (.int .i64 s) ∧ w'.cell? ⟨b, off + 3, none⟩ = some (.int .i64 q))
        (first
          | exact ⟨d0, d1, d2, d3⟩
          | (refine ⟨(World.grownBy_alloc _ _ none).cell ?_ (by simp), (World.grownBy_alloc _ _ none).cell ?_ (by simp), (World.grownBy_alloc _ _ none).cell ?_ (by simp), (World.grownBy_alloc _ _ none).cell ?_ (by simp)⟩ <;> assumption)
          | go_keep)
        (fail)
    | fail
  clear d0 d1 d2 d3
  have nb1 : Below W0.heap.size W0 (W0.alloc (.cells #[.int .i64 1, .int .i64 i, .slice none 0 0, .int .i64 s, .int .i64 q] 58)).drew := ((Below.refl _ _).alloc (Nat.le_refl _) _).drew
  have bX : Box W0.heap.size #[.int .i64 1, .int .i64 i, .slice none 0 0, .int .i64 s, .int .i64 q] 58 (W0.alloc (.cells #[.int .i64 1, .int .i64 i, .slice none 0 0, .int .i64 s, .int .i64 q] 58)).drew W0.heap.size := (newBox (Nat.le_refl _)).drew
  generalize (W0.alloc (.cells #[.int .i64 1, .int .i64 i, .slice none 0 0, .int .i64 s, .int .i64 q] 58)).drew = W1 at *
  have hX := bX.lt
  have hR := bR.lt
  replace bR := bR.keep nb1
  have HB1 := hide (nb.trans (nb1.mono nb.size))
  replace hv := (hv.later nb).later nb1
  clear nb nb1
  generalize hs0 : W0.heap.size = sx at *
  clear hs0
  have x0 := bX.at 0 _ rfl
  have x1 := bX.at 1 _ rfl
  have x2 := bX.at 2 _ rfl
  have x3 := bX.at 3 _ rfl
  have x4 := bX.at 4 _ rfl
  go_wp2_with fail
  refine (slClone _ _ [x, y, z] _ hv (by simp)).mono ?_
  rintro e w2 ⟨v2, rfl, O, hb⟩
  replace bR := bR.keep hb
  replace bX := bX.keep hb
  replace HB1 := hide ((unhide HB1).trans (hb.mono (unhide HB1).size))
  have hz2 := hb.size
  clear hb hv x0 x1 x2 x3 x4
  obtain ⟨a2, p2, rfl⟩ := own_shape O
  have x0 := bX.at 0 _ rfl
  have x1 := bX.at 1 _ rfl
  have x2 := bX.at 2 _ rfl
  have x3 := bX.at 3 _ rfl
  have x4 := bX.at 4 _ rfl
  have xf := bX.soft 2
  have hX2 := bX.lt
  have HO := hide O
  have HR := hide bR
  have HX := hide bX
  clear O bR bX
  simp only [List.length_cons, List.length_nil, Nat.zero_add, Nat.reduceAdd] at HO
  go_wp2_with fail
  have bX := (unhide HX).set 2 (.slice a2 3 p2)
  have bR := (unhide HR).other ⟨sx, 2, none⟩ (.slice a2 3 p2) (by simp; omega)
  have O := own_setC (a := ⟨sx, 2, none⟩) (unhide HO) (by simpa using hX) (.slice a2 3 p2)
  have HB2 : Hid (Below w.heap.size w (w2.setCell ⟨sx, 2, none⟩ (.slice a2 3 p2))) := (unhide HB1).setCell (by simp; omega) _
  clear HB1
  have HB1 := HB2
  clear HB2
  clear HX HR HO x0 x1 x2 x3 x4 xf
  have hz3 : w2.heap.size ≤ (w2.setCell ⟨sx, 2, none⟩ (.slice a2 3 p2)).heap.size := by simp
  generalize w2.setCell ⟨sx, 2, none⟩ (.slice a2 3 p2) = W2 at *
  have hvec : IsInts W2 (.slice a2 3 p2) [x, y, z] := isInts_row (unhide HV) O
  have HO : Hid ((Lay.sl Lay.int).OwnIn W2 [.slice a2 3 p2] [x, y, z] (w.heap.size + 1) W2.heap.size) := (Lay.ownInts (unhide HV) (by simp) O).mono (by omega) (Nat.le_refl _)
  clear O
  have HP : Hid (packD (unpackW [1, i, s, q, x, y, z, c]) = packList 1 i [x, y, z] s q) := by
    show packD (unpackW [1, i, s, q, x, y, z, c]) = packList 1 i [x, y, z] s q
    simp [packD, unpackW]
  refine (implPack 1 i _ s q [x, y, z] W2 hvec).mono ?_
  rintro e w3 ⟨r, rfl, Or, hb⟩
  replace bX := bX.keep hb
  replace bR := bR.keep hb
  replace HO := hide (((unhide HO).later hb).mono (Nat.le_refl _) hb.size)
  replace HB1 := hide ((unhide HB1).trans (hb.mono (unhide HB1).size))
  clear hb hvec
  have Ir := isInts_row packList_wf Or
  have hpl : (packList 1 i [x, y, z] s q).length ≤ 9223372036854775807 := Nat.le_trans packList_len (by omega)
  simp only [intsRes]
  generalize writeFault 1 i [x, y, z] s q = fc at *
  generalize packList 1 i [x, y, z] s q = pl at *
  have hfld : ∀ w : World, (Instr.field 26 (.agg #[.int .i64 fc, r]) 1).run Try.prog w = .ok r w := fun _ => by
    obtain ⟨ar, pr, rfl⟩ := own_shape Or
    kernel_rfl
  have HI := hide Ir
  have HR := hide bR
  have HX := hide bX
  clear Or Ir bR bX
  go_wp2_with fail
  clear hfld
  refine (slEqual _ _ pl [1, i, s, q, x, y, z, c] w3 (unhide HI) ((unhide H).later (unhide HB1)) hpl).mono ?_
  rintro e w4 ⟨rfl, hb⟩
  have bX := (unhide HX).keep hb
  have bR := (unhide HR).keep hb
  replace HO := hide (((unhide HO).later hb).mono (Nat.le_refl _) hb.size)
  replace HB1 := hide ((unhide HB1).trans (hb.mono (unhide HB1).size))
  clear hb HX HR HI hpl
  have x0 := bX.at 0 _ rfl
  have x1 := bX.at 1 _ rfl
  have x2 := bX.at 2 _ rfl
  have x3 := bX.at 3 _ rfl
  have x4 := bX.at 4 _ rfl
  have r0 := bR.at 0 _ rfl
  have r1 := bR.at 1 _ rfl
  have r2 := bR.at 2 _ rfl
  have r3 := bR.at 3 _ rfl
  have r4 := bR.at 4 _ rfl
  have r5 := bR.at 5 _ rfl
  have rf := bR.soft
  have rl := bR.lt
  clear bX bR
  simp only [List.getElem_toArray, List.getElem_cons_zero, List.getElem_cons_succ] at x0 x1 x2 x3 x4 r0 r1 r2 r3 r4 r5
  by_cases he : pl = [1, i, s, q, x, y, z, c]
  · have HU : Hid (unpackR [1, i, s, q, x, y, z, c] = ⟨0, unpackW [1, i, s, q, x, y, z, c]⟩) := by
      show unpackR [1, i, s, q, x, y, z, c] = ⟨0, unpackW [1, i, s, q, x, y, z, c]⟩
      rw [unpackR, if_pos ⟨rfl, (unhide HP).trans he⟩]
    rw [show decide (pl = [1, i, s, q, x, y, z, c]) = true by simpa using he]
    clear he HP
    go_wp2_with fail
    refine bodyPost_ret (v := .agg #[.int .i64 0, .int .i64 1, .int .i64 i, .slice a2 3 p2, .int .i64 s, .int .i64 q]) (by simp [results, Try.results59, go_sem, r0, r1, r2, r3, r4, r5]) rfl ?_
    rw [unhide HU]
    obtain ⟨f0, f1, f2, f3⟩ := unhide HF
    have own : (Lay.sl Lay.int).OwnIn w4 [.slice a2 3 p2] (unpackW [1, i, s, q, x, y, z, c]).vec (w.heap.size + 1) w4.heap.size := by
      rw [show (unpackW [1, i, s, q, x, y, z, c]).vec = [x, y, z] by simp [unpackW]]
      exact unhide HO
    have own2 := own_okW own f0 f1 f2 f3
    exact toldW_store (vs := [.int .i64 0, .int .i64 1, .int .i64 i, .slice a2 3 p2, .int .i64 s, .int .i64 q]) own2 (Nat.le_refl _) (unhide HB1)
  · have HU : Hid (unpackR [1, i, s, q, x, y, z, c] = ⟨5, zeroW⟩) := by
      show unpackR [1, i, s, q, x, y, z, c] = ⟨5, zeroW⟩
      rw [unpackR, if_neg (fun q => he ((unhide HP).symm.trans q.2))]
    rw [show decide (pl = [1, i, s, q, x, y, z, c]) = false by simpa using he]
    clear he HP
    go_wp2_with fail
    refine bodyPost_ret (v := .agg #[.int .i64 5, .int .i64 0, .int .i64 0, .slice none 0 0, .int .i64 0, .int .i64 0]) (by simp [results, Try.results59, go_sem, r0, r1, r2, r3, r4, r5]) rfl ?_
    rw [unhide HU]
    exact ⟨[.int .i64 5, .int .i64 0, .int .i64 0, .slice none 0 0, .int .i64 0, .int .i64 0], rfl, own_badW rfl, below_setAll (unhide HB1) w.heap.size 0 [.int .i64 5, .int .i64 0, .int .i64 0, .slice none 0 0, .int .i64 0, .int .i64 0] (Nat.le_refl _)⟩

set_option maxRecDepth 100000 in
set_option maxHeartbeats 4000000 in
theorem implUnpack_other (b off cap : Nat) (k i s q x y z c : Int) (w : World) (h : IsInts w (.slice (some ⟨b, off, none⟩) 8 cap) [k, i, s, q, x, y, z, c]) (hk : k ≠ 1) :
    Calls Try.prog 59 #[.slice (some ⟨b, off, none⟩) 8 cap] w fun e w' => ToldW w w' e (unpackR [k, i, s, q, x, y, z, c]) := by
  have hc : ∀ j, j < 8 → w.cell? ⟨b, off + j, none⟩ = some (.int .i64 ([k, i, s, q, x, y, z, c].getD j 0)) := by
    obtain ⟨ao, cp, e, -, hc⟩ := h
    obtain ⟨b', off', rfl, hc1⟩ := hc (by simp)
    simp only [Value.slice.injEq, Option.some.injEq, Addr.mk.injEq, and_true] at e
    obtain ⟨⟨rfl, rfl⟩, -, -⟩ := e
    exact hc1
  have c0 : w.cell? ⟨b, off, none⟩ = some (.int .i64 k) := hc 0 (by omega)
  have c1 : w.cell? ⟨b, off + 1, none⟩ = some (.int .i64 i) := hc 1 (by omega)
  have c2 : w.cell? ⟨b, off + 2, none⟩ = some (.int .i64 s) := hc 2 (by omega)
  have c3 : w.cell? ⟨b, off + 3, none⟩ = some (.int .i64 q) := hc 3 (by omega)
  have hwf := h.wf
  have f0 : (Lit.int .i64 k).wf = true := hwf k (by simp)
  have f1 : (Lit.int .i64 i).wf = true := hwf i (by simp)
  have f2 : (Lit.int .i64 s).wf = true := hwf s (by simp)
  have f3 : (Lit.int .i64 q).wf = true := hwf q (by simp)
  have HF := hide (And.intro f0 (And.intro f1 (And.intro f2 f3)))
  have H := hide h
  clear h hc hwf f0 f1 f2 f3
  have nb : Below w.heap.size w (w.alloc (.cells #[.int .i64 0, .int .i64 0, .int .i64 0, .slice none 0 0, .int .i64 0, .int .i64 0] 86)) := (Below.refl _ _).alloc (Nat.le_refl _) _
  have bR : Box w.heap.size #[.int .i64 0, .int .i64 0, .int .i64 0, .slice none 0 0, .int .i64 0, .int .i64 0] 86 (w.alloc (.cells #[.int .i64 0, .int .i64 0, .int .i64 0, .slice none 0 0, .int .i64 0, .int .i64 0] 86)) w.heap.size := newBox (Nat.le_refl _)
  have d0 := cell_keep nb c0
  have d1 := cell_keep nb c1
  have d2 := cell_keep nb c2
  have d3 := cell_keep nb c3
  clear c0 c1 c2 c3
  go_enter Try.func59, Try.ntmps59
  go_wp2_with fail
  generalize w.alloc (.cells #[.int .i64 0, .int .i64 0, .int .i64 0, .slice none 0 0, .int .i64 0, .int .i64 0] 86) = W0 at *
  first
    | go_region_held3 (fun w' => w'.cell? ⟨b, off, none⟩ = some (.int .i64 k) ∧ w'.cell? ⟨b, off + 1, none⟩ = some (.int .i64 i) ∧ w'.cell? ⟨b, off + 2, none⟩ = some (.int .i64 s) ∧ w'.cell? ⟨b, off + 3, none⟩ = some (.int .i64 q))
        (first
          | exact ⟨d0, d1, d2, d3⟩
          | (refine ⟨(World.grownBy_alloc _ _ none).cell ?_ (by simp), (World.grownBy_alloc _ _ none).cell ?_ (by simp), (World.grownBy_alloc _ _ none).cell ?_ (by simp), (World.grownBy_alloc _ _ none).cell ?_ (by simp)⟩ <;> assumption)
          | go_keep)
        (fail)
    | fail
  clear d0 d1 d2 d3
  have nb1 : Below W0.heap.size W0 (W0.alloc (.cells #[.int .i64 k, .int .i64 i, .slice none 0 0, .int .i64 s, .int .i64 q] 58)).drew := ((Below.refl _ _).alloc (Nat.le_refl _) _).drew
  have bX : Box W0.heap.size #[.int .i64 k, .int .i64 i, .slice none 0 0, .int .i64 s, .int .i64 q] 58 (W0.alloc (.cells #[.int .i64 k, .int .i64 i, .slice none 0 0, .int .i64 s, .int .i64 q] 58)).drew W0.heap.size := (newBox (Nat.le_refl _)).drew
  generalize (W0.alloc (.cells #[.int .i64 k, .int .i64 i, .slice none 0 0, .int .i64 s, .int .i64 q] 58)).drew = W1 at *
  have hX := bX.lt
  have hR := bR.lt
  replace bR := bR.keep nb1
  have HB1 := hide (nb.trans (nb1.mono nb.size))
  skip
  clear nb nb1
  generalize hs0 : W0.heap.size = sx at *
  clear hs0
  have x0 := bX.at 0 _ rfl
  have x1 := bX.at 1 _ rfl
  have x2 := bX.at 2 _ rfl
  have x3 := bX.at 3 _ rfl
  have x4 := bX.at 4 _ rfl
  have HR := hide bR
  have HX := hide bX
  clear bR bX
  go_wp2_with fail
  have bX := unhide HX
  have bR := unhide HR
  clear HX HR x0 x1 x2 x3 x4
  obtain ⟨W2, hW2⟩ : ∃ W2, W2 = W1 := ⟨_, rfl⟩
  subst hW2
  have hvec : IsInts W2 (.slice none 0 0) [] := ⟨none, 0, rfl, by simp, by simp⟩
  have HO : Hid ((Lay.sl Lay.int).OwnIn W2 [.slice none 0 0] [] (w.heap.size + 1) W2.heap.size) := ⟨[], ⟨Lay.lies_ints.2 ⟨none, 0, rfl, ⟨by simp, by simp⟩, by simp, Or.inl ⟨rfl, rfl⟩⟩, by simp, by simp⟩, by simp⟩
  have HP : Hid (packD (unpackW [k, i, s, q, x, y, z, c]) = packList k i [] s q) := by
    show packD (unpackW [k, i, s, q, x, y, z, c]) = packList k i [] s q
    simp [packD, unpackW, hk]
  refine (implPack k i _ s q [] W2 hvec).mono ?_
  rintro e w3 ⟨r, rfl, Or, hb⟩
  replace bX := bX.keep hb
  replace bR := bR.keep hb
  replace HO := hide (((unhide HO).later hb).mono (Nat.le_refl _) hb.size)
  replace HB1 := hide ((unhide HB1).trans (hb.mono (unhide HB1).size))
  clear hb hvec
  have Ir := isInts_row packList_wf Or
  have hpl : (packList k i [] s q).length ≤ 9223372036854775807 := Nat.le_trans packList_len (by omega)
  simp only [intsRes]
  generalize writeFault k i [] s q = fc at *
  generalize packList k i [] s q = pl at *
  have hfld : ∀ w : World, (Instr.field 26 (.agg #[.int .i64 fc, r]) 1).run Try.prog w = .ok r w := fun _ => by
    obtain ⟨ar, pr, rfl⟩ := own_shape Or
    kernel_rfl
  have HI := hide Ir
  have HR := hide bR
  have HX := hide bX
  clear Or Ir bR bX
  go_wp2_with fail
  clear hfld
  refine (slEqual _ _ pl [k, i, s, q, x, y, z, c] w3 (unhide HI) ((unhide H).later (unhide HB1)) hpl).mono ?_
  rintro e w4 ⟨rfl, hb⟩
  have bX := (unhide HX).keep hb
  have bR := (unhide HR).keep hb
  replace HO := hide (((unhide HO).later hb).mono (Nat.le_refl _) hb.size)
  replace HB1 := hide ((unhide HB1).trans (hb.mono (unhide HB1).size))
  clear hb HX HR HI hpl
  have x0 := bX.at 0 _ rfl
  have x1 := bX.at 1 _ rfl
  have x2 := bX.at 2 _ rfl
  have x3 := bX.at 3 _ rfl
  have x4 := bX.at 4 _ rfl
  have r0 := bR.at 0 _ rfl
  have r1 := bR.at 1 _ rfl
  have r2 := bR.at 2 _ rfl
  have r3 := bR.at 3 _ rfl
  have r4 := bR.at 4 _ rfl
  have r5 := bR.at 5 _ rfl
  have rf := bR.soft
  have rl := bR.lt
  clear bX bR
  simp only [List.getElem_toArray, List.getElem_cons_zero, List.getElem_cons_succ] at x0 x1 x2 x3 x4 r0 r1 r2 r3 r4 r5
  by_cases he : pl = [k, i, s, q, x, y, z, c]
  · have HU : Hid (unpackR [k, i, s, q, x, y, z, c] = ⟨0, unpackW [k, i, s, q, x, y, z, c]⟩) := by
      show unpackR [k, i, s, q, x, y, z, c] = ⟨0, unpackW [k, i, s, q, x, y, z, c]⟩
      rw [unpackR, if_pos ⟨rfl, (unhide HP).trans he⟩]
    rw [show decide (pl = [k, i, s, q, x, y, z, c]) = true by simpa using he]
    clear he HP
    go_wp2_with fail
    refine bodyPost_ret (v := .agg #[.int .i64 0, .int .i64 k, .int .i64 i, .slice none 0 0, .int .i64 s, .int .i64 q]) (by simp [results, Try.results59, go_sem, r0, r1, r2, r3, r4, r5]) rfl ?_
    rw [unhide HU]
    obtain ⟨f0, f1, f2, f3⟩ := unhide HF
    have own : (Lay.sl Lay.int).OwnIn w4 [.slice none 0 0] (unpackW [k, i, s, q, x, y, z, c]).vec (w.heap.size + 1) w4.heap.size := by
      rw [show (unpackW [k, i, s, q, x, y, z, c]).vec = [] by simp [unpackW, hk]]
      exact unhide HO
    have own2 := own_okW own f0 f1 f2 f3
    exact toldW_store (vs := [.int .i64 0, .int .i64 k, .int .i64 i, .slice none 0 0, .int .i64 s, .int .i64 q]) own2 (Nat.le_refl _) (unhide HB1)
  · have HU : Hid (unpackR [k, i, s, q, x, y, z, c] = ⟨5, zeroW⟩) := by
      show unpackR [k, i, s, q, x, y, z, c] = ⟨5, zeroW⟩
      rw [unpackR, if_neg (fun q => he ((unhide HP).symm.trans q.2))]
    rw [show decide (pl = [k, i, s, q, x, y, z, c]) = false by simpa using he]
    clear he HP
    go_wp2_with fail
    refine bodyPost_ret (v := .agg #[.int .i64 5, .int .i64 0, .int .i64 0, .slice none 0 0, .int .i64 0, .int .i64 0]) (by simp [results, Try.results59, go_sem, r0, r1, r2, r3, r4, r5]) rfl ?_
    rw [unhide HU]
    exact ⟨[.int .i64 5, .int .i64 0, .int .i64 0, .slice none 0 0, .int .i64 0, .int .i64 0], rfl, own_badW rfl, below_setAll (unhide HB1) w.heap.size 0 [.int .i64 5, .int .i64 0, .int .i64 0, .slice none 0 0, .int .i64 0, .int .i64 0] (Nat.le_refl _)⟩

/-- UnpackWrite of the program. -/
theorem implUnpack (v : Value) (zs : List Int) (w : World) (h : (Lay.sl Lay.int).Reads w [v] zs) :
    Calls Try.prog 59 #[v] w fun e w' => ToldW w w' e (unpackR zs) := by
  have hi := Lay.ints_reads h
  have hi' := hi
  obtain ⟨ao, cap, rfl, -, hc⟩ := hi'
  by_cases hl : zs.length = 8
  · obtain ⟨k, i, s, q, x, y, z, c, rfl⟩ := eight hl
    obtain ⟨b, off, rfl, -⟩ := hc (by simp)
    have hcap := h.cap.2
    by_cases hk : k = 1
    · subst hk
      exact implUnpack_put b off cap i s q x y z c w hi hcap
    · exact implUnpack_other b off cap k i s q x y z c w hi hk
  · rw [unpackR_len hl]
    exact implUnpack_len ao _ cap w hl

end Go.Proofs.Ytipomhpimmnchaa

namespace Go.Proofs.Ytipomhpimmnchaa
open Go.RowKit Go.Shelf
attribute [local go_sem] Oper.semAt_some

theorem writeR_own {w : World} {cs : List Value} {y : DWriteResult} {lo hi : Nat} (h : Lay.tWriteResult.OwnIn w cs y lo hi) : ∃ cs2, cs = .int .i64 y.code :: cs2 ∧ Lay.tWrite.OwnIn w cs2 y.write lo hi := by
  obtain ⟨bl, ⟨⟨c1, c2, b1, b2, rfl, rfl, ⟨rfl, hc, rfl⟩, l⟩, hd, hf⟩, hr⟩ := h
  exact ⟨c2, rfl, b2, ⟨l, hd, hf⟩, hr⟩
theorem unpack_code {zs : List Int} (h : (unpackR zs).code ≠ 0) : (unpackR zs).code = 5 := by
  unfold unpackR at *
  split at h
  · simp at h
  · rename_i hq
    rw [if_neg hq]

set_option maxRecDepth 100000 in
set_option maxHeartbeats 1000000 in
theorem implReadLog_many (ao : Option Addr) (n cap : Nat) (zs : List Int) (w : World) (hz : zs.length = n) (hn : 320 < n) (hb : n ≤ 9223372036854775807) :
    Calls Try.prog 22 #[.slice ao n cap] w fun e w' => ∃ cs, e = .returned (.agg cs.toArray) ∧ Lay.tWritesResult.OwnIn w' cs (readLogR zs) w.heap.size w'.heap.size ∧ Below w.heap.size w w' := by
  have HY : Hid (readLogR zs = ⟨2, []⟩) := by show readLogR zs = _; rw [readLogR, if_pos (by omega)]
  clear hz
  refine (callsIn_wide (n := 9)).1 ?_
  refine callsIn_of_wp_marks Try.func22 rfl trivial ?_ rfl
  refine wpIn_wide.2 ?_
  simp only [Try.ntmps22, List.size_toArray, List.length_cons, List.length_nil, Nat.reduceAdd, Nat.reduceSub, Array.replicate_succ, Array.replicate_zero, List.push_toArray, List.append_toArray, List.nil_append, List.cons_append]
  go_wp2_with fail
  refine ⟨.agg #[.int .i64 2, .slice none 0 0], by simp [results, Try.results22, go_sem], [.int .i64 2, .slice none 0 0], rfl, ?_, (Below.refl _ _).alloc (Nat.le_refl _) _⟩
  rw [unhide HY]
  exact own_wsR (by decide) nil_own

set_option maxRecDepth 100000 in
set_option maxHeartbeats 8000000 in
theorem implReadLog_few (ao : Option Addr) (cap : Nat) (zs : List Int) (w : World) (h : (Lay.sl Lay.int).Reads w [.slice ao zs.length cap] zs) (hn : zs.length ≤ 320) :
    Calls Try.prog 22 #[.slice ao zs.length cap] w fun e w' => ∃ cs, e = .returned (.agg cs.toArray) ∧ Lay.tWritesResult.OwnIn w' cs (readLogR zs) w.heap.size w'.heap.size ∧ Below w.heap.size w w' := by
  have HY : Hid (readLogR zs = ⟨0, readL zs⟩) := by show readLogR zs = _; rw [readLogR, if_neg (by omega)]
  have hcap := h.cap.2
  obtain ⟨b, off, hao⟩ : ∃ b off, 0 < zs.length → ao = some ⟨b, off, none⟩ := by
    by_cases hp : 0 < zs.length
    · obtain ⟨b, off, e, -⟩ := Lay.sl_addr h hp
      exact ⟨b, off, fun _ => e⟩
    · exact ⟨0, 0, fun hq => absurd hq hp⟩
  have nb : Below w.heap.size w ((((w.alloc (.cells #[.int .i64 0, .slice none 0 0] 36)).alloc (.cells #[.slice none 0 0] 28)).alloc (.cells #[.slice ao zs.length cap] 24)).alloc (.cells #[.int .i64 8] 3)) := ((((Below.refl _ _).alloc (Nat.le_refl _) _).alloc (by simp) _).alloc (by simp; omega) _).alloc (by simp; omega) _
  have bR : Box w.heap.size #[.int .i64 0, .slice none 0 0] 36 ((((w.alloc (.cells #[.int .i64 0, .slice none 0 0] 36)).alloc (.cells #[.slice none 0 0] 28)).alloc (.cells #[.slice ao zs.length cap] 24)).alloc (.cells #[.int .i64 8] 3)) w.heap.size := (((newBox (Nat.le_refl _)).grow _).grow _).grow _
  have bV : Box w.heap.size #[.slice none 0 0] 28 ((((w.alloc (.cells #[.int .i64 0, .slice none 0 0] 36)).alloc (.cells #[.slice none 0 0] 28)).alloc (.cells #[.slice ao zs.length cap] 24)).alloc (.cells #[.int .i64 8] 3)) (w.heap.size + 1) := ((newBoxAt (by omega) (by simp)).grow _).grow _
  have bS : Box w.heap.size #[.slice ao zs.length cap] 24 ((((w.alloc (.cells #[.int .i64 0, .slice none 0 0] 36)).alloc (.cells #[.slice none 0 0] 28)).alloc (.cells #[.slice ao zs.length cap] 24)).alloc (.cells #[.int .i64 8] 3)) (w.heap.size + 1 + 1) := (newBoxAt (by omega) (by simp)).grow _
  have bN : Box w.heap.size #[.int .i64 8] 3 ((((w.alloc (.cells #[.int .i64 0, .slice none 0 0] 36)).alloc (.cells #[.slice none 0 0] 28)).alloc (.cells #[.slice ao zs.length cap] 24)).alloc (.cells #[.int .i64 8] 3)) (w.heap.size + 1 + 1 + 1) := newBoxAt (by omega) (by simp)
  have hszL : ((((w.alloc (.cells #[.int .i64 0, .slice none 0 0] 36)).alloc (.cells #[.slice none 0 0] 28)).alloc (.cells #[.slice ao zs.length cap] 24)).alloc (.cells #[.int .i64 8] 3)).heap.size = w.heap.size + 4 := by simp
  have LC := hide (implChunk ao zs.length cap ((w.alloc (.cells #[.int .i64 0, .slice none 0 0] 36)).alloc (.cells #[.slice none 0 0] 28)))
  have H := hide h
  have HB := hide nb
  have HR := hide bR
  have HV := hide bV
  have HS := hide bS
  have HN := hide bN
  have HZ := hide hszL
  clear h nb bR bV bS bN hszL
  refine (callsIn_wide (n := 9)).1 ?_
  refine callsIn_of_wp_marks Try.func22 rfl trivial ?_ rfl
  refine wpIn_wide.2 ?_
  simp only [Try.ntmps22, List.size_toArray, List.length_cons, List.length_nil, Nat.reduceAdd, Nat.reduceSub, Array.replicate_succ, Array.replicate_zero, List.push_toArray, List.append_toArray, List.nil_append, List.cons_append]
  go_wp2_with fail
  refine (unhide LC).mono ?_
  rintro e w4 ⟨rfl, rfl⟩
  clear LC
  go_wp2_with fail
  generalize hWL : (((w.alloc (.cells #[.int .i64 0, .slice none 0 0] 36)).alloc (.cells #[.slice none 0 0] 28)).alloc (.cells #[.slice ao zs.length cap] 24)).alloc (.cells #[.int .i64 8] 3) = WL at *
  clear hWL
  have hszL := unhide HZ
  have hS0 := (unhide HS).at 0 _ rfl
  have hN0 := (unhide HN).at 0 _ rfl
  simp only [List.getElem_toArray, List.getElem_cons_zero] at hS0 hN0
  refine wpIn_wide.1 (wpIn_rangeFunc_ownH (F := Fence.wide) (n := 9) rfl (by decide) (gf := 88) (lb := #[.pointer (some ⟨w.heap.size + 1 + 1, 0, none⟩), .pointer (some ⟨w.heap.size + 1 + 1 + 1, 0, none⟩)]) rfl trivial (enters_of Try.func88 (by kernel_rfl) rfl)
    (chunk_stops 8 (w.heap.size + 1 + 1) (w.heap.size + 1 + 1 + 1) b off cap ao zs WL.heap.size (fun c => c = w.heap.size + 1) (by omega) hcap hao ⟨by omega, fun h => by omega⟩ ⟨by omega, fun h => by omega⟩ WL (by omega) (by omega) hS0 hN0)
    KpS.trans (fun W l _ o' hl _ _ _ => KpS.put _ W l o' hl) (Below.refl _ _) (fun _ => rfl)
    (fun pre W => (WL.heap.size ≤ W.heap.size ∧ ∀ p ∈ pre, okAt zs p.1 = true) ∧ Box w.heap.size #[.int .i64 0, .slice none 0 0] 36 W w.heap.size ∧ (∃ v, Box w.heap.size #[v] 28 W (w.heap.size + 1) ∧ Ws W (w.heap.size + 4) v (wsP zs pre)) ∧ Below w.heap.size w W)
    (fun c pre W => c = .exit 0 ∧ ∃ pre' p, pre = pre' ++ [p] ∧ (∀ q ∈ pre', okAt zs q.1 = true) ∧ okAt zs p.1 = false ∧ Box w.heap.size #[.int .i64 0, .slice none 0 0] 36 W w.heap.size ∧ (∃ v, Box w.heap.size #[v] 28 W (w.heap.size + 1) ∧ Ws W (w.heap.size + 4) v (wsP zs pre')) ∧ Below w.heap.size w W)
    (fun s A B row hs hg hr => by
      obtain ⟨⟨q1, q2⟩, q3, ⟨v, q4, q5⟩, q6⟩ := hs
      exact ⟨⟨Nat.le_trans q1 hg.size, q2⟩, box_grown hg hr q3, ⟨v, box_grown hg hr q4, q5.keep (fun c o h1 h2 h3 => (grown_cells hg hr h2 (Or.inr h3)).trans h2.symm)⟩, below_grown hg hr q6 (by omega) (Nat.le_refl _)⟩)
    (fun c s A B row hs hg hr => by
      obtain ⟨rfl, pre', p, rfl, r1, r2, q3, ⟨v, q4, q5⟩, q6⟩ := hs
      exact ⟨rfl, pre', p, rfl, r1, r2, box_grown hg hr q3, ⟨v, box_grown hg hr q4, q5.keep (fun c o h1 h2 h3 => (grown_cells hg hr h2 (Or.inr h3)).trans h2.symm)⟩, below_grown hg hr q6 (by omega) (Nat.le_refl _)⟩)
    ⟨⟨Nat.le_refl _, by simp⟩, unhide HR, ⟨_, unhide HV, Ws.nil _ _⟩, unhide HB⟩
    (fun y a' W => a' = { tmps := #[.slice ao zs.length cap, undef, .pointer (some ⟨w.heap.size, 0, none⟩), .pointer (some ⟨w.heap.size + 1, 0, none⟩), pcV b off zs y.1, undef, .slice ao zs.length cap, .int .i64 (zs.length : Int), .bool (decide ((320 : Int) < (zs.length : Int))), undef, .slice ao zs.length cap, .func (.func 88) #[] #[.pointer (some ⟨w.heap.size + 1 + 1, 0, none⟩), .pointer (some ⟨w.heap.size + 1 + 1 + 1, 0, none⟩)], pcV b off zs y.1, undef, undef, undef, undef, undef, undef, undef, undef, undef, undef, undef, undef], defers := [] })
    (fun y a' _ A B row hs hg hr => hs)
    ?assign ?body ?done ?stop)
  case assign =>
    rintro l pre y W K ⟨⟨hs, hp⟩, hI⟩ hK
    have HPC : Hid (pcV b off zs y.1 = pcV b off zs y.1) := rfl
    unfold pcV at hK ⊢
    gi_wp2
    exact hK _ _ (keepsFrom_below (Below.refl _ _)) (KpS.refl _ _ _) ⟨⟨hs, hp⟩, hI⟩ rfl
  case body =>
    rintro l pre y a' W hl ⟨r0, hr0⟩ ⟨⟨hs, hp⟩, b1, ⟨v, b2, hW⟩, hB1⟩ rfl hlt
    have hy8 : 8 * y.1 < zs.length := np_lt.1 y.2
    obtain rfl := hao (by omega)
    have HU := hide (CallsIn.inRound l ((callsIn_wide (n := 9 - 1 - 1 - 1)).2 (implUnpack (pcV b off zs y.1) (pieceAt zs y.1) W (pcV_reads ((unhide H).later hB1) y.1 hy8))))
    have HW := hide hW
    have HWW := hide hW
    have HB1 := hide hB1
    have HP := hide hp
    have HBR := hide b1
    have HBV := hide b2
    obtain ⟨ao2, cp2, hvf⟩ := hW.form
    have HPL : Hid ((wsP zs pre).length = pre.length) := wsP_len zs pre
    have hnp : pre.length < 41 := by have : np zs ≤ 40 := (by unfold np; omega); omega
    have HBR0 := hide b1
    have HB10 := hide hB1
    have HWB : Hid (∀ c, v.ownBlock = some c → w.heap.size + 4 ≤ c ∧ c < W.heap.size) := fun c e => ⟨(hW.block e).1, (hW.block e).2.1⟩
    have HWC : Hid (∀ c, v.ownBlock = some c → ∃ o : Obj, W.heap[c]? = some o ∧ o.isCells = true) := fun c e => (hW.block e).2.2
    clear hW hB1 hp b1 b2
    unfold pcV at HU ⊢
    gi_wp2
    refine ⟨trivial, ?_⟩
    gi_at_call 59
    refine (unhide HU).mono ?_
    rintro e w5 ⟨cs, rfl, O5, hb5⟩
    obtain ⟨cs2, rfl, O6⟩ := writeR_own O5
    obtain ⟨bl, hl6, hd6, hs6⟩ := write_soft O6
    obtain ⟨a9, d9, rfl, -⟩ := open_Write ⟨_, hl6⟩
    have HK5 := hide hb5
    have hz5 := hb5.size
    have HW5 := hide ((unhide HW).later hb5)
    have HBV5 := hide ((unhide HBV).keep hb5)
    have HBR5 := hide ((unhide HBR).keep hb5)
    have HB5 := hide ((unhide HB1).trans (hb5.mono (unhide HB1).size))
    have hok : okAt zs y.1 = decide ((unpackR (pieceAt zs y.1)).code = 0) := rfl
    have HOK := hide hok
    have HWAT : Hid (wAt zs y.1 = (unpackR (pieceAt zs y.1)).write) := rfl
    have HC5 := hide (unpack_code (zs := pieceAt zs y.1))
    have HL6 := hide hl6
    have HD6 := hide hd6
    have HS6 := hide hs6
    clear hb5 O5 O6 HU HW HBV HBR HB1 hok hl6 hd6 hs6
    generalize unpackR (pieceAt zs y.1) = r at *
    have nb6 : Below w5.heap.size w5 (w5.alloc (.cells #[.int .i64 r.code, .int .i64 r.write.kind, .int .i64 r.write.id, .slice a9 r.write.vec.length d9, .int .i64 r.write.session, .int .i64 r.write.seq] 86)) := (Below.refl _ _).alloc (Nat.le_refl _) _
    have bD : Box 0 #[.int .i64 r.code, .int .i64 r.write.kind, .int .i64 r.write.id, .slice a9 r.write.vec.length d9, .int .i64 r.write.session, .int .i64 r.write.seq] 86 (w5.alloc (.cells #[.int .i64 r.code, .int .i64 r.write.kind, .int .i64 r.write.id, .slice a9 r.write.vec.length d9, .int .i64 r.write.session, .int .i64 r.write.seq] 86)) w5.heap.size := newBox (Nat.zero_le _)
    have HN6 := hide nb6
    have HBD := hide bD
    clear nb6 bD
    have hbD6 := (unhide HBD)
    have d0 := hbD6.at 0 _ rfl
    have d1 := hbD6.at 1 _ rfl
    have d2 := hbD6.at 2 _ rfl
    have d3 := hbD6.at 3 _ rfl
    have d4 := hbD6.at 4 _ rfl
    have d5 := hbD6.at 5 _ rfl
    have HV6 := hide ((unhide HBV5).keep (unhide HN6))
    have HR6 := hide ((unhide HBR5).keep (unhide HN6))
    have HW6 := hide ((unhide HW5).later (unhide HN6))
    have HE6 : Hid (∀ T : Nat → Prop, Ext T W (w5.alloc (.cells #[.int .i64 r.code, .int .i64 r.write.kind, .int .i64 r.write.id, .slice a9 r.write.vec.length d9, .int .i64 r.write.session, .int .i64 r.write.seq] 86))) := fun T => (ext_of_below (unhide HK5) T).trans (ext_of_below (unhide HN6) T)
    have HBB6 := hide ((unhide HB5).trans ((unhide HN6).mono (unhide HB5).size))
    have HBWS : Hid (Below W.heap.size W (w5.alloc (.cells #[.int .i64 r.code, .int .i64 r.write.kind, .int .i64 r.write.id, .slice a9 r.write.vec.length d9, .int .i64 r.write.session, .int .i64 r.write.seq] 86))) := (unhide HK5).trans ((unhide HN6).mono hz5)
    have hz6 : (w5.alloc (.cells #[.int .i64 r.code, .int .i64 r.write.kind, .int .i64 r.write.id, .slice a9 r.write.vec.length d9, .int .i64 r.write.session, .int .i64 r.write.seq] 86)).heap.size = w5.heap.size + 1 := by simp
    have HZ6 := hide hz6
    have HLL6 : Hid (Lay.tWrite.lies (w5.alloc (.cells #[.int .i64 r.code, .int .i64 r.write.kind, .int .i64 r.write.id, .slice a9 r.write.vec.length d9, .int .i64 r.write.session, .int .i64 r.write.seq] 86)) [.int .i64 r.write.kind, .int .i64 r.write.id, .slice a9 r.write.vec.length d9, .int .i64 r.write.session, .int .i64 r.write.seq] r.write bl) := Lay.tWrite.keep (unhide HL6) (fun c hc => (unhide HN6).block c (unhide HS6 c hc).1.2)
    have HSS6 : Hid (∀ c ∈ bl, (W.heap.size ≤ c ∧ c < w5.heap.size) ∧ SoftB (w5.alloc (.cells #[.int .i64 r.code, .int .i64 r.write.kind, .int .i64 r.write.id, .slice a9 r.write.vec.length d9, .int .i64 r.write.session, .int .i64 r.write.seq] 86)) c) := fun c hc => ⟨(unhide HS6 c hc).1, (unhide HS6 c hc).2.keep ((unhide HN6).block c (unhide HS6 c hc).1.2)⟩
    simp only [List.getElem_toArray, List.getElem_cons_zero, List.getElem_cons_succ] at d0 d1 d2 d3 d4 d5
    clear hbD6 HBV5 HBR5 HW5 HL6 HS6 hz6
    by_cases hc : r.code = 0
    · have HX : Hid (okAt zs y.1 = true) := by show okAt zs y.1 = true; rw [unhide HOK]; simpa using hc
      have hcz : (r.code != 0) = false := by rw [hc]; rfl
      clear hc HC5 HOK
      obtain ⟨rows, bls, hG0, hnd, hsb0⟩ := unhide HWW
      have HSL : Hid (∀ c ∈ bls.flatten, c < W.heap.size) := fun c hc => hG0.sub_lt c hc
      have hG := hG0.later (unhide HBWS)
      have hsb : ∀ c ∈ bls.flatten, w.heap.size + 4 ≤ c ∧ SoftB (w5.alloc (.cells #[.int .i64 r.code, .int .i64 r.write.kind, .int .i64 r.write.id, .slice a9 r.write.vec.length d9, .int .i64 r.write.session, .int .i64 r.write.seq] 86)) c := fun c hc => ⟨(hsb0 c hc).1, (hsb0 c hc).2.keep ((unhide HBWS).block c (unhide HSL c hc))⟩
      clear hG0 hsb0
      have hoff : ∀ c ∈ bl, v.ownBlock ≠ some c := fun c hc e => by
        have h1 := (unhide HSS6 c hc).1.1
        have h2 := (unhide HWB c e).2
        omega
      have hK : (wsP zs pre).length + 1 ≤ 100000000 := by rw [unhide HPL]; omega
      have hZ : w.heap.size + 4 ≤ (w5.alloc (.cells #[.int .i64 r.code, .int .i64 r.write.kind, .int .i64 r.write.id, .slice a9 r.write.vec.length d9, .int .i64 r.write.session, .int .i64 r.write.seq] 86)).heap.size := by have := unhide HZ6; omega
      have v0 := (unhide HV6).at 0 _ rfl
      have vf := (unhide HV6).soft 0
      simp only [List.getElem_toArray, List.getElem_cons_zero] at v0
      subst hvf
      have HLL := unhide HLL6
      have HNS := hide hnd
      have HSB := hide hsb
      clear hnd hsb
      gi_wp2_with (gi_at_builtin; refine wpListIn_append_WriteH hG HLL hoff rfl _ _ rfl rfl (unhide HZ6) rfl hK hZ ?_)
      intro g7 cap7 w7 hG7 hb7 hE7 hg7 hz7 hor7
      have hvn : ∀ q, q < w.heap.size + 4 → ¬ (Value.slice ao2 (wsP zs pre).length cp2).ownBlock = some q := fun q hq e => by
        have := (unhide HWB q e).1
        omega
      have bV7 := (unhide HV6).ext hE7 (hvn _ (by omega))
      have HE8 : Hid (Ext (fun q => (Value.slice ao2 (wsP zs pre).length cp2).ownBlock = some q ∨ q = w.heap.size + 1) W (w7.setCell ⟨w.heap.size + 1, 0, none⟩ (.slice (some ⟨g7, 0, none⟩) ((wsP zs pre).length + 1) cap7))) :=
        ((unhide HE6 _).trans (hE7.mono fun k _ h => Or.inl h)).setCell _ _ (Or.inr rfl)
      have hN8 : Ext (fun q => q = w.heap.size + 1) w7 (w7.setCell ⟨w.heap.size + 1, 0, none⟩ (.slice (some ⟨g7, 0, none⟩) ((wsP zs pre).length + 1) cap7)) := (Ext.refl (fun q => q = w.heap.size + 1) _).setCell ⟨w.heap.size + 1, 0, none⟩ _ rfl
      have HV8 := hide (bV7.set 0 (.slice (some ⟨g7, 0, none⟩) ((wsP zs pre).length + 1) cap7))
      have hsl : ∀ c ∈ bls.flatten, c < W.heap.size := unhide HSL
      have HW8 : Hid (Ws (w7.setCell ⟨w.heap.size + 1, 0, none⟩ (.slice (some ⟨g7, 0, none⟩) ((wsP zs pre).length + 1) cap7)) (w.heap.size + 4) (.slice (some ⟨g7, 0, none⟩) ((wsP zs pre).length + 1) cap7) (wsP zs pre ++ [r.write])) := by
        have h7 : Ws w7 (w.heap.size + 4) (.slice (some ⟨g7, 0, none⟩) ((wsP zs pre).length + 1) cap7) (wsP zs pre ++ [r.write]) := by
          refine ⟨_, _, hG7, ?_, fun c hc => ?_⟩
          · rw [List.flatten_append, List.nodup_append]
            refine ⟨unhide HNS, by simpa using unhide HD6, fun a ha b hb e => ?_⟩
            have h1 := hsl a ha
            have h2 := (unhide HSS6 b (by simpa using hb)).1.1
            omega
          · rw [List.flatten_append] at hc
            rcases List.mem_append.1 hc with hc | hc
            · have hq := unhide HSB c hc
              exact ⟨hq.1, hq.2.keep (hE7.block c (by have h1 := hsl c hc; have h2 := unhide HZ6; omega) (hG.off c hc))⟩
            · replace hc : c ∈ bl := by simpa using hc
              have hq := unhide HSS6 c hc
              exact ⟨by omega, hq.2.keep (hE7.block c (by have h2 := unhide HZ6; omega) (hoff c hc))⟩
        exact h7.keep fun c o h1 h2 h3 => hN8.block c (Array.getElem?_eq_some_iff.1 h2).1 (by omega)
      have v7 := bV7.at 0 _ rfl
      have vf7 := bV7.soft 0
      have vl7 := bV7.lt
      have HR8 := hide ((unhide HBR0).ext (unhide HE8) (fun h => by rcases h with h | h; exact hvn _ (by omega) h; omega))
      have HB8 : Hid (Below w.heap.size w (w7.setCell ⟨w.heap.size + 1, 0, none⟩ (.slice (some ⟨g7, 0, none⟩) ((wsP zs pre).length + 1) cap7))) := (unhide HB10).trans ((unhide HE8).below (unhide HB10).size (fun k hk h => by rcases h with h | h; exact hvn _ (by omega) h; omega))
      have HKF : Hid (KeepsFrom WL.heap.size W (w7.setCell ⟨w.heap.size + 1, 0, none⟩ (.slice (some ⟨g7, 0, none⟩) ((wsP zs pre).length + 1) cap7))) := keepsFrom_ext (unhide HE8) (fun k o h1 h2 h3 h => by
        rcases h with h | h
        · obtain ⟨o', q1, q2⟩ := unhide HWC k h
          rw [h2] at q1
          cases q1
          rw [h3] at q2
          cases q2
        · omega)
      have HKP : Hid (KpS WL.heap.size (fun c => c = w.heap.size + 1) W (w7.setCell ⟨w.heap.size + 1, 0, none⟩ (.slice (some ⟨g7, 0, none⟩) ((wsP zs pre).length + 1) cap7))) := KpS.of_ext (unhide HE8) hs (fun k hk h => by
        rcases h with h | h
        · exact absurd h (hvn _ (by omega))
        · exact h)
      have HS8 : Hid (WL.heap.size ≤ (w7.setCell ⟨w.heap.size + 1, 0, none⟩ (.slice (some ⟨g7, 0, none⟩) ((wsP zs pre).length + 1) cap7)).heap.size) := Nat.le_trans hs (unhide HE8).size
      clear hG HLL hoff hK hZ hG7 hb7 hE7 hg7 hz7 hor7 bV7 hN8 hsl hvn v0 vf d0 d1 d2 d3 d4 d5
      gi_wp2
      refine ⟨unhide HKF, unhide HKP, ⟨unhide HS8, fun q hq => ?_⟩, unhide HR8, ⟨_, unhide HV8, ?_⟩, unhide HB8⟩
      · rcases List.mem_append.1 hq with hq | hq
        · exact unhide HP q hq
        · rw [List.mem_singleton.1 hq]; exact unhide HX
      · rw [wsP_snoc, unhide HWAT]
        exact unhide HW8
    · have HX : Hid (okAt zs y.1 = false) := by show okAt zs y.1 = false; rw [unhide HOK]; simpa using hc
      have hd5 : (r.code != 0) = true := by simpa using hc
      clear hc HC5 HOK
      gi_wp2
      exact ⟨keepsFrom_ext (unhide HE6 nowhere) (fun _ _ _ _ _ h => h), rfl, pre, y, rfl, unhide HP, unhide HX, unhide HR6, ⟨v, unhide HV6, unhide HW6⟩, unhide HBB6⟩
  case done =>
    rintro D xs W hD rfl ⟨⟨hs, hp⟩, b1, ⟨v, b2, hW⟩, hB1⟩ hK
    have HEQ := hide (read_all hp)
    clear hp
    obtain ⟨ao2, cp2, rfl⟩ := hW.form
    have v0 := b2.at 0 _ rfl
    have r0 := b1.at 0 _ rfl
    have r1 := b1.at 1 _ rfl
    have rf := b1.soft
    have rl := b1.lt
    simp only [List.getElem_toArray, List.getElem_cons_zero, List.getElem_cons_succ] at v0 r0 r1
    have HR := hide b1
    have HWf := hide hW
    have HBf := hide hB1
    have HK := hide hK
    have HDL := hide hD
    clear b1 b2 hW hB1 hK hS0 hN0 hD
    go_wp2_with fail
    have hK1 := (KeepsOthers.setCell W ⟨w.heap.size, 0, none⟩ (.int .i64 0)).same D _ (unhide HK) rfl
    have hK' := (KeepsOthers.setCell (W.setCell ⟨w.heap.size, 0, none⟩ (.int .i64 0)) ⟨w.heap.size, 1, none⟩ (.slice ao2 (wsP zs (allPc (np zs))).length cp2)).same D _ hK1 rfl
    refine ⟨by simp, .inl ⟨_, _, rfl, run_takeDeferred hK', ?_⟩⟩
    have bF := ((unhide HR).set 0 (.int .i64 0)).set 1 (.slice ao2 (wsP zs (allPc (np zs))).length cp2)
    have hgr := grownBy_putObj' ((W.setCell ⟨w.heap.size, 0, none⟩ (.int .i64 0)).setCell ⟨w.heap.size, 1, none⟩ (.slice ao2 (wsP zs (allPc (np zs))).length cp2)) D (.deferred none)
    have hrr : ∀ r, some D = some r → ∃ o : Obj, ((W.setCell ⟨w.heap.size, 0, none⟩ (.int .i64 0)).setCell ⟨w.heap.size, 1, none⟩ (.slice ao2 (wsP zs (allPc (np zs))).length cp2)).heap[r]? = some o ∧ o.isCells = false := fun r e => by cases e; exact ⟨_, hK', rfl⟩
    have hc0 := cell_kept (bF.at 0 _ rfl) hgr hrr
    have hc1 := cell_kept (bF.at 1 _ rfl) hgr hrr
    simp only [List.setIfInBounds_toArray, List.set_cons_zero, List.set_cons_succ, List.getElem_toArray, List.getElem_cons_zero, List.getElem_cons_succ] at hc0 hc1
    have hE1 : Ext (fun q => q = w.heap.size) W ((W.setCell ⟨w.heap.size, 0, none⟩ (.int .i64 0)).setCell ⟨w.heap.size, 1, none⟩ (.slice ao2 (wsP zs (allPc (np zs))).length cp2)) := ((Ext.refl (fun q => q = w.heap.size) _).setCell ⟨w.heap.size, 0, none⟩ _ rfl).setCell ⟨w.heap.size, 1, none⟩ _ rfl
    have hWf := ((unhide HWf).keep fun c o h1 h2 h3 => hE1.block c (Array.getElem?_eq_some_iff.1 h2).1 (by omega)).keep fun c o h1 h2 h3 => hgr.block c (Array.getElem?_eq_some_iff.1 h2).1 (fun e => by cases e; rw [hK'] at h2; cases h2; cases h3)
    have hBf : Below w.heap.size w (((W.setCell ⟨w.heap.size, 0, none⟩ (.int .i64 0)).setCell ⟨w.heap.size, 1, none⟩ (.slice ao2 (wsP zs (allPc (np zs))).length cp2)).putObj D (.deferred none)) := (((unhide HBf).setCell (by simp) _).setCell (by simp) _).grown hgr (by have := (unhide HBf).size; simp; omega) (fun k e => by cases e; have := unhide HDL; omega)
    refine ⟨.agg #[.int .i64 0, .slice ao2 (wsP zs (allPc (np zs))).length cp2], by simp [results, Try.results22, go_sem, hc0, hc1], [.int .i64 0, .slice ao2 (wsP zs (allPc (np zs))).length cp2], rfl, ?_, hBf⟩
    rw [unhide HY, unhide HEQ]
    exact (own_wsR (by decide) (hWf.own (by rw [wsP_len]; rw [allPc_len]; unfold np; omega))).mono (by omega) (Nat.le_refl _)
  case stop =>
    rintro D c pre W hD hpre ⟨rfl, pre', p, rfl, hp, hnp, b1, ⟨v, b2, hW⟩, hB1⟩ hK
    have HEQ := hide (read_stop hpre hp hnp)
    have HLE : Hid (pre'.length ≤ 1000) := by
      have := hpre.length_le
      rw [allPc_len, List.length_append] at this
      have h2 : np zs ≤ 40 := by unfold np; omega
      show pre'.length ≤ 1000
      omega
    clear hp hnp
    obtain ⟨ao2, cp2, rfl⟩ := hW.form
    have v0 := b2.at 0 _ rfl
    have r0 := b1.at 0 _ rfl
    have r1 := b1.at 1 _ rfl
    have rf := b1.soft
    have rl := b1.lt
    simp only [List.getElem_toArray, List.getElem_cons_zero, List.getElem_cons_succ] at v0 r0 r1
    have HR := hide b1
    have HWf := hide hW
    have HBf := hide hB1
    have HK := hide hK
    have HDL := hide hD
    clear b1 b2 hW hB1 hK hS0 hN0 hD
    gi_wp2
    go_wp2_with fail
    have hK1 := (KeepsOthers.setCell W ⟨w.heap.size, 0, none⟩ (.int .i64 0)).same D _ (unhide HK) rfl
    have hK' := (KeepsOthers.setCell (W.setCell ⟨w.heap.size, 0, none⟩ (.int .i64 0)) ⟨w.heap.size, 1, none⟩ (.slice ao2 (wsP zs pre').length cp2)).same D _ hK1 rfl
    refine ⟨by simp, .inl ⟨_, _, rfl, run_takeDeferred hK', ?_⟩⟩
    have bF := ((unhide HR).set 0 (.int .i64 0)).set 1 (.slice ao2 (wsP zs pre').length cp2)
    have hgr := grownBy_putObj' ((W.setCell ⟨w.heap.size, 0, none⟩ (.int .i64 0)).setCell ⟨w.heap.size, 1, none⟩ (.slice ao2 (wsP zs pre').length cp2)) D (.deferred none)
    have hrr : ∀ r, some D = some r → ∃ o : Obj, ((W.setCell ⟨w.heap.size, 0, none⟩ (.int .i64 0)).setCell ⟨w.heap.size, 1, none⟩ (.slice ao2 (wsP zs pre').length cp2)).heap[r]? = some o ∧ o.isCells = false := fun r e => by cases e; exact ⟨_, hK', rfl⟩
    have hc0 := cell_kept (bF.at 0 _ rfl) hgr hrr
    have hc1 := cell_kept (bF.at 1 _ rfl) hgr hrr
    simp only [List.setIfInBounds_toArray, List.set_cons_zero, List.set_cons_succ, List.getElem_toArray, List.getElem_cons_zero, List.getElem_cons_succ] at hc0 hc1
    have hE1 : Ext (fun q => q = w.heap.size) W ((W.setCell ⟨w.heap.size, 0, none⟩ (.int .i64 0)).setCell ⟨w.heap.size, 1, none⟩ (.slice ao2 (wsP zs pre').length cp2)) := ((Ext.refl (fun q => q = w.heap.size) _).setCell ⟨w.heap.size, 0, none⟩ _ rfl).setCell ⟨w.heap.size, 1, none⟩ _ rfl
    have hWf := ((unhide HWf).keep fun c o h1 h2 h3 => hE1.block c (Array.getElem?_eq_some_iff.1 h2).1 (by omega)).keep fun c o h1 h2 h3 => hgr.block c (Array.getElem?_eq_some_iff.1 h2).1 (fun e => by cases e; rw [hK'] at h2; cases h2; cases h3)
    have hBf : Below w.heap.size w (((W.setCell ⟨w.heap.size, 0, none⟩ (.int .i64 0)).setCell ⟨w.heap.size, 1, none⟩ (.slice ao2 (wsP zs pre').length cp2)).putObj D (.deferred none)) := (((unhide HBf).setCell (by simp) _).setCell (by simp) _).grown hgr (by have := (unhide HBf).size; simp; omega) (fun k e => by cases e; have := unhide HDL; omega)
    refine ⟨.agg #[.int .i64 0, .slice ao2 (wsP zs pre').length cp2], by simp [results, Try.results22, go_sem, hc0, hc1], [.int .i64 0, .slice ao2 (wsP zs pre').length cp2], rfl, ?_, hBf⟩
    rw [unhide HY, unhide HEQ]
    exact (own_wsR (by decide) (hWf.own (by rw [wsP_len]; have := unhide HLE; omega))).mono (by omega) (Nat.le_refl _)

/-- ReadLog of the program. -/
theorem implReadLog (v : Value) (zs : List Int) (w : World) (h : (Lay.sl Lay.int).Reads w [v] zs) :
    Calls Try.prog 22 #[v] w fun e w' => ∃ cs, e = .returned (.agg cs.toArray) ∧ Lay.tWritesResult.OwnIn w' cs (readLogR zs) w.heap.size w'.heap.size ∧ Below w.heap.size w w' := by
  obtain ⟨ao, cap, rfl⟩ := open_sl h
  by_cases hn : 320 < zs.length
  · exact implReadLog_many ao zs.length cap zs w rfl hn h.big
  · exact implReadLog_few ao cap zs w h (by omega)

end Go.Proofs.Ytipomhpimmnchaa

namespace Go.Proofs.Ytipomhpimmnchaa
open Go.RowKit

theorem count_eq (a b : Nat) : ((a : Int) + (b : Int)).tdiv 8 = (((a + b) / 8 : Nat) : Int) := by
  rw [← Int.natCast_add, Int.tdiv_eq_ediv_of_nonneg (by omega)]
  omega
theorem count_wf {n : Nat} (h : n ≤ 100000000) : (Lit.int .i64 (n : Int)).wf = true := wf_of_bd (by omega)

set_option maxRecDepth 100000 in
set_option maxHeartbeats 2000000 in
theorem l8OfC (u v : Value) (xs ys : List Int) (w : World) (h1 : (Lay.sl Lay.int).Reads w [u] xs) (h2 : (Lay.sl Lay.int).Reads w [v] ys) (n1 : xs.length ≤ 10000000) (n2 : ys.length ≤ 10000000) :
    Calls Try.prog 64 #[u, v] w fun e w' => ∃ a c a' c', e = .returned (.agg #[.int .i64 0, .int .i64 (((xs.length + ys.length) / 8 : Nat) : Int), .slice a xs.length c, .slice a' ys.length c']) ∧ Lay.tLogResult.LiesIn w' [.int .i64 0, .int .i64 (((xs.length + ys.length) / 8 : Nat) : Int), .slice a xs.length c, .slice a' ys.length c'] (logOf xs ys) w.heap.size w'.heap.size ∧ Below w.heap.size w w' := by
  have nb : Below w.heap.size w (w.alloc (.cells #[.int .i64 0, .int .i64 0, .slice none 0 0, .slice none 0 0] 56)) := (Below.refl _ _).alloc (Nat.le_refl _) _
  have bR : Box w.heap.size #[.int .i64 0, .int .i64 0, .slice none 0 0, .slice none 0 0] 56 (w.alloc (.cells #[.int .i64 0, .int .i64 0, .slice none 0 0, .slice none 0 0] 56)) w.heap.size := newBox (Nat.le_refl _)
  have H1 := hide (h1.later nb)
  have H2 := hide (h2.later nb)
  obtain ⟨a1, d1, rfl⟩ := open_sl h1
  obtain ⟨a2, d2, rfl⟩ := open_sl h2
  have HB := hide nb
  have HR := hide bR
  have HC : Hid (((xs.length : Int) + (ys.length : Int)).tdiv 8 = (((xs.length + ys.length) / 8 : Nat) : Int)) := count_eq _ _
  have HCW : Hid ((Lit.int .i64 (((xs.length + ys.length) / 8 : Nat) : Int)).wf = true) := count_wf (by omega)
  clear h1 h2 nb bR
  go_enter Try.func64, Try.ntmps64
  go_upto_region 1 with fail
  generalize w.alloc (.cells #[.int .i64 0, .int .i64 0, .slice none 0 0, .slice none 0 0] 56) = W0 at *
  have HL1 := hide (l1Ints _ xs W0 (Lay.ints_reads (unhide H1)) (by omega))
  have HW1 := hide (Lay.ints_reads (unhide H1)).wf
  have HW2 := hide (Lay.ints_reads (unhide H2)).wf
  go_wp2_with fail
  refine (unhide HL1).mono ?_
  rintro e w2 ⟨v2, rfl, O, hb⟩
  have hO1 := Lay.ownInts (unhide HW1) (by omega) O
  obtain ⟨a3, c3, rfl⟩ := open_sl hO1.reads
  have HL2 := hide (l1Ints _ ys w2 (Lay.ints_reads ((unhide H2).later hb)) (by omega))
  have HR2 := hide ((unhide HR).keep hb)
  have HB2 := hide ((unhide HB).trans (hb.mono (unhide HB).size))
  have HLT := hide (unhide HR).lt
  have HO1 := hide hO1
  have HZ := hide hb.size
  clear O hb hO1 HL1 HR HB H1 H2
  go_wp2_with fail
  refine (unhide HL2).mono ?_
  rintro e w3 ⟨v3, rfl, O, hb⟩
  have hO2 := Lay.ownInts (unhide HW2) (by omega) O
  obtain ⟨a4, c4, rfl⟩ := open_sl hO2.reads
  have hO1 := (unhide HO1).later hb
  have HLL : Hid (Lay.tLogResult.LiesIn w3 [.int .i64 0, .int .i64 (((xs.length + ys.length) / 8 : Nat) : Int), .slice a3 xs.length c3, .slice a4 ys.length c4] (logOf xs ys) W0.heap.size w3.heap.size) :=
    lies_logR (by decide) (unhide HCW) (hO1.lies.mono (Nat.le_refl _) hb.size) (hO2.lies.mono (unhide HZ) (Nat.le_refl _))
  have HB3 := hide ((unhide HB2).trans (hb.mono (unhide HB2).size))
  have bR := (unhide HR2).keep hb
  have z0 := bR.at 0 _ rfl
  have z1 := bR.at 1 _ rfl
  have z2 := bR.at 2 _ rfl
  have z3 := bR.at 3 _ rfl
  have ff := bR.soft
  have l0 := bR.lt
  clear O hb hO1 hO2 HO1 HL2 HR2 HB2 bR HZ
  go_wp2_with fail
  refine bodyPost_ret (v := .agg #[.int .i64 0, .int .i64 (((xs.length + ys.length) / 8 : Nat) : Int), .slice a3 xs.length c3, .slice a4 ys.length c4]) (by simp [results, Try.results64, go_sem, z0, z1, z2, z3]) rfl ?_
  exact ⟨a3, c3, a4, c4, rfl, lies_store (vs := [.int .i64 0, .int .i64 _, .slice a3 xs.length c3, .slice a4 ys.length c4]) (unhide HLL) (unhide HLT) (Nat.le_refl _), below_setAll (unhide HB3) w.heap.size 0 [.int .i64 0, .int .i64 _, .slice a3 xs.length c3, .slice a4 ys.length c4] (Nat.le_refl _)⟩

/-- The same, with names for all that is in the answer. -/
theorem l8OfD (u v : Value) (xs ys : List Int) (w : World) (h1 : (Lay.sl Lay.int).Reads w [u] xs) (h2 : (Lay.sl Lay.int).Reads w [v] ys) (n1 : xs.length ≤ 10000000) (n2 : ys.length ≤ 10000000) :
    Calls Try.prog 64 #[u, v] w fun e w' => ∃ (cn : Int) (a : Option Addr) (n c : Nat) (a' : Option Addr) (n' c' : Nat), e = .returned (.agg #[.int .i64 0, .int .i64 cn, .slice a n c, .slice a' n' c']) ∧ Lay.tLogResult.LiesIn w' [.int .i64 0, .int .i64 cn, .slice a n c, .slice a' n' c'] (logOf xs ys) w.heap.size w'.heap.size ∧ Below w.heap.size w w' := by
  refine (l8OfC u v xs ys w h1 h2 n1 n2).mono ?_
  rintro e w' ⟨a, c, a', c', h⟩
  exact ⟨_, a, _, c, a', _, c', h⟩

end Go.Proofs.Ytipomhpimmnchaa

namespace Go.Proofs.Ytipomhpimmnchaa
open Go.RowKit

set_option maxRecDepth 10000 in
set_option maxHeartbeats 1000000 in
theorem implAlone (v : Value) (zs : List Int) (w : World) (h : (Lay.sl Lay.int).Reads w [v] zs) (hn : zs.length ≤ 320) :
    Calls Try.prog 63 #[v] w fun e w' => e = .returned (.bool (decide (8 * cnt zs = zs.length))) ∧ Below w.heap.size w w' := by
  have L := hide (implReadLog v zs w h)
  obtain ⟨ao, cap, rfl⟩ := open_sl h
  have hr : readLogR zs = ⟨0, readL zs⟩ := by rw [readLogR, if_neg (by omega)]
  rw [hr] at L
  clear h hr
  go_enter Try.func63, Try.ntmps63
  go_wp2_with fail
  refine (unhide L).mono ?_
  rintro e w2 ⟨cs, rfl, O, hb⟩
  obtain ⟨a1, d1, rfl, R⟩ := open_WritesResult O.reads
  have hl : (readL zs).length = cnt zs := read_len zs
  have hc := cnt_le zs
  simp only [hl]
  have HB := hide hb
  clear O R hb L hl
  have hfl : ∀ W : World, (Instr.field 36 (.agg #[.int .i64 0, .slice a1 (cnt zs) d1]) 1).run Try.prog W = .ok (.slice a1 (cnt zs) d1) W := fun _ => by kernel_rfl
  generalize hm : cnt zs = m at *
  have HM := hide hm
  clear hm
  have HD : Hid (decide (8 * m = zs.length) = decide (8 * (m : Int) = (zs.length : Int))) := by
    show decide (8 * m = zs.length) = decide (8 * (m : Int) = (zs.length : Int))
    by_cases e : 8 * m = zs.length
    · rw [decide_eq_true e, decide_eq_true (by omega)]
    · rw [decide_eq_false e, decide_eq_false (by omega)]
  go_wp2_with fail
  go_ret
  refine ⟨?_, unhide HB⟩
  rw [unhide HM, unhide HD]
  by_cases e : 8 * (m : Int) = (zs.length : Int)
  · simp [e]
  · simp [e]

set_option maxRecDepth 10000 in
set_option maxHeartbeats 2000000 in
/-- LogFault of the program. -/
theorem implLogFault (cs : List Value) (x : DLog) (w : World) (h : Lay.tLog.Reads w cs x) (n1 : x.sure.length ≤ 10000000) (n2 : x.loose.length ≤ 10000000) :
    Calls Try.prog 31 #[.agg cs.toArray] w fun e w' => e = .returned (.int .i64 (logFault x)) ∧ Below w.heap.size w w' := by
  obtain ⟨a0, d0, a1, d1, rfl, R0, R1⟩ := open_Log h
  clear h
  have nb : Below w.heap.size w (w.alloc (.cells #[.slice a0 x.sure.length d0, .slice a1 x.loose.length d1] 48)) := (Below.refl _ _).alloc (Nat.le_refl _) _
  have bL : Box w.heap.size #[.slice a0 x.sure.length d0, .slice a1 x.loose.length d1] 48 (w.alloc (.cells #[.slice a0 x.sure.length d0, .slice a1 x.loose.length d1] 48)) w.heap.size := newBox (Nat.le_refl _)
  by_cases hn : 320 < x.sure.length + x.loose.length
  · have HF : Hid (logFault x = 2) := by show logFault x = 2; rw [logFault, if_pos hn]
    have HB := hide nb
    clear R0 R1 nb bL
    go_enter Try.func31, Try.ntmps31
    go_wp2_with fail
    go_ret
    exact ⟨by rw [unhide HF]; rfl, unhide HB⟩
  · have L1 := hide (implAlone _ x.sure _ (R0.later nb) (by omega))
    have HX : Hid (logFault x = if 8 * cnt x.sure = x.sure.length ∧ 8 * cnt x.loose = x.loose.length then 0 else 5) := by show logFault x = _; rw [logFault, if_neg hn]
    have H1 := hide (R1.later nb)
    have HB := hide nb
    have HL := hide bL
    clear R0 R1 nb bL
    go_enter Try.func31, Try.ntmps31
    go_wp2_with fail
    refine (unhide L1).mono ?_
    generalize w.alloc (.cells #[.slice a0 x.sure.length d0, .slice a1 x.loose.length d1] 48) = W0 at *
    rintro e w2 ⟨rfl, hb⟩
    have bL := (unhide HL).keep hb
    have z1 := bL.at 1 _ rfl
    simp only [List.getElem_toArray, List.getElem_cons_zero, List.getElem_cons_succ] at z1
    have L2 := hide (implAlone _ x.loose w2 ((unhide H1).later hb) (by omega))
    have HB2 := hide ((unhide HB).trans (hb.mono (unhide HB).size))
    clear hb bL L1 HB HL H1
    by_cases h1 : 8 * cnt x.sure = x.sure.length
    · have e1 : decide (8 * cnt x.sure = x.sure.length) = true := decide_eq_true h1
      simp only [e1]
      go_wp2_with fail
      refine (unhide L2).mono ?_
      rintro e w3 ⟨rfl, hb⟩
      have HB3 := hide ((unhide HB2).trans (hb.mono (unhide HB2).size))
      clear hb L2 HB2 z1
      by_cases h2 : 8 * cnt x.loose = x.loose.length
      · have HF : Hid (logFault x = 0) := by show logFault x = 0; rw [unhide HX, if_pos ⟨h1, h2⟩]
        have e2 : decide (8 * cnt x.loose = x.loose.length) = true := decide_eq_true h2
        simp only [e2]
        clear h1 h2 HX e1 e2
        go_wp2_with fail
        go_ret
        exact ⟨by rw [unhide HF]; rfl, unhide HB3⟩
      · have HF : Hid (logFault x = 5) := by show logFault x = 5; rw [unhide HX, if_neg (fun q => h2 q.2)]
        have e2 : decide (8 * cnt x.loose = x.loose.length) = false := decide_eq_false h2
        simp only [e2]
        clear h1 h2 HX e1 e2
        go_wp2_with fail
        go_ret
        exact ⟨by rw [unhide HF]; rfl, unhide HB3⟩
    · have HF : Hid (logFault x = 5) := by show logFault x = 5; rw [unhide HX, if_neg (fun q => h1 q.1)]
      have e1 : decide (8 * cnt x.sure = x.sure.length) = false := decide_eq_false h1
      simp only [e1]
      clear h1 HX e1 L2
      go_wp2_with fail
      go_ret
      exact ⟨by rw [unhide HF]; rfl, unhide HB2⟩

set_option maxRecDepth 10000 in
set_option maxHeartbeats 1000000 in
/-- A log and how many writes it has. -/
theorem implCounted (a0 : Option Addr) (n0 d0 : Nat) (a1 : Option Addr) (n1 d1 : Nat) (w : World) (h0 : n0 ≤ 10000000) (h1 : n1 ≤ 10000000) :
    Calls Try.prog 67 #[.agg #[.slice a0 n0 d0, .slice a1 n1 d1]] w fun e w' => ∃ cn : Int, cn = (((n0 + n1) / 8 : Nat) : Int) ∧ e = .returned (.agg #[.int .i64 0, .int .i64 cn, .slice a0 n0 d0, .slice a1 n1 d1]) ∧ Below w.heap.size w w' := by
  have HB : Hid (∀ o p, Below w.heap.size w ((w.alloc o).alloc p)) := fun o p => ((Below.refl _ _).alloc (Nat.le_refl _) o).alloc (by simp) p
  have hq : ((n0 : Int) + (n1 : Int)).tdiv 8 = (((n0 + n1) / 8 : Nat) : Int) := count_eq n0 n1
  go_enter Try.func67, Try.ntmps67
  go_wp2_with fail
  refine bodyPost_ret (v := .agg #[.int .i64 0, .int .i64 (((n0 + n1) / 8 : Nat) : Int), .slice a0 n0 d0, .slice a1 n1 d1]) (by simp [results, Try.results67, go_sem]) rfl ?_
  exact ⟨_, rfl, rfl, unhide HB _ _⟩

end Go.Proofs.Ytipomhpimmnchaa

namespace Go.Proofs.Ytipomhpimmnchaa
open Go.RowKit

theorem own_full {w : World} {base e g n : Nat} {xs : List Value} (h : w.ownsRow base e 1 (.slice (some ⟨g, 0, none⟩) n n) n xs) : w.heap[g]? = some (.cells xs.toArray e (0, 0)) ∧ base ≤ g ∧ xs.length = n := by
  obtain ⟨hl, h⟩ := h
  rcases h with ⟨h, -⟩ | ⟨g', cap, cur, hv, hb, hh, -, -, hs, ht⟩
  · cases h
  · simp only [Value.slice.injEq, Option.some.injEq, Addr.mk.injEq, and_true, true_and] at hv
    obtain ⟨rfl, rfl⟩ := hv
    refine ⟨?_, hb, by omega⟩
    rw [hh]
    rw [List.take_of_length_le (by simp; omega)] at ht
    rw [← ht]
theorem full_own {w : World} {base e g n : Nat} {xs : List Value} (h : w.heap[g]? = some (.cells xs.toArray e (0, 0))) (hb : base ≤ g) (hl : xs.length = n) (hn : n ≤ maxLen) : w.ownsRow base e 1 (.slice (some ⟨g, 0, none⟩) n n) n xs :=
  ⟨by omega, Or.inr ⟨g, n, xs.toArray, rfl, hb, h, Nat.le_refl _, hn, by simpa using hl, by rw [Nat.mul_one, ← hl, List.take_length]⟩⟩
theorem news_reads {w : World} {ao : Option Addr} {n cap : Nat} {zs : List Int} (h : (Lay.sl Lay.int).Reads w [.slice ao n cap] zs) (hp : 0 < zs.length) : ∃ ad, ao = some ad ∧ ∀ j u, (zs.map (Value.int .i64))[j]? = some u → w.cell? (ad.add j) = some u := by
  have hc := h.cap.1
  subst hc
  obtain ⟨b, off, rfl, -⟩ := Lay.sl_addr h hp
  exact ⟨_, rfl, (Lay.ints_reads h).news hp⟩
theorem size_int : (Try.prog.info? 2).map (·.size) = some 1 := by kernel_rfl
theorem splice_first (n : Nat) (X : List Value) (z : Value) : splice (List.replicate n z) 0 X = X ++ List.replicate (n - X.length) z := by
  simp [splice]
theorem splice_second (X Y : List Value) (m : Nat) (z : Value) (h : Y.length = m) : splice (X ++ List.replicate m z) X.length Y = X ++ Y := by
  simp [splice, h]

theorem splice_end (X Y : List Value) (h : Y.length = 0) : splice X X.length Y = X ++ Y := by
  obtain rfl := List.eq_nil_of_length_eq_zero h
  simp [splice]

set_option maxRecDepth 100000 in
set_option maxHeartbeats 2000000 in
theorem implJoined (u v : Value) (xs ys : List Int) (w : World) (h1 : (Lay.sl Lay.int).Reads w [u] xs) (h2 : (Lay.sl Lay.int).Reads w [v] ys) (n1 : xs.length ≤ 10000000) (n2 : ys.length ≤ 10000000) :
    Calls Try.prog 69 #[u, v] w fun e w' => ∃ m, m = xs.length + ys.length ∧ e = .returned (.slice (some ⟨w.heap.size, 0, none⟩) m m) ∧ w'.ownsRow w.heap.size 2 1 (.slice (some ⟨w.heap.size, 0, none⟩) m m) m ((xs ++ ys).map (Value.int .i64)) ∧ Below w.heap.size w w' := by
  obtain ⟨a1, d1, rfl⟩ := open_sl h1
  obtain ⟨a2, d2, rfl⟩ := open_sl h2
  obtain ⟨i0, hi, hz0, hz1, hz2⟩ := info_parts info2
  obtain ⟨X, hX⟩ : ∃ X, X = xs.map (Value.int .i64) := ⟨_, rfl⟩
  obtain ⟨Y, hY⟩ : ∃ Y, Y = ys.map (Value.int .i64) := ⟨_, rfl⟩
  have lX : X.length = xs.length := by rw [hX, List.length_map]
  have lY : Y.length = ys.length := by rw [hY, List.length_map]
  have HX := hide hX
  have HY := hide hY
  have H1 := hide h1
  have H2 := hide h2
  have HP1 : Hid (∀ W, Below w.heap.size w W → 0 < X.length → ∃ ad, a1 = some ad ∧ ∀ j u, X[j]? = some u → W.cell? (ad.add j) = some u) := fun W hW hp => by rw [hX]; exact news_reads (h1.later hW) (by omega)
  have HP2 : Hid (∀ W, Below w.heap.size w W → 0 < Y.length → ∃ ad, a2 = some ad ∧ ∀ j u, Y[j]? = some u → W.cell? (ad.add j) = some u) := fun W hW hp => by rw [hY]; exact news_reads (h2.later hW) (by omega)
  have HC1 : Hid (∀ v ∈ X, v.oneCell' = true) := by rw [hX]; intro v hv; obtain ⟨z, -, rfl⟩ := List.mem_map.1 hv; rfl
  have HC2 : Hid (∀ v ∈ Y, v.oneCell' = true) := by rw [hY]; intro v hv; obtain ⟨z, -, rfl⟩ := List.mem_map.1 hv; rfl
  generalize xs.length = nx at *
  generalize ys.length = ny at *
  clear h1 h2 hX hY
  go_enter Try.func69, Try.ntmps69
  go_wp2_with (at_make; refine wpList_make_full _ rfl _ _ 24 rfl w.heap.size 2 i0 (.int .i64 0) 1 Try.underlying24 hi hz0 hz1 _ _ _ _ (nx + ny) rfl rfl ?c0 ?c01 ?c1 ?c2 ?c3 ?_)
  case c0 => simp
  case c01 => simp
  case c1 => rw [hz2]; omega
  case c2 => unfold maxLen; omega
  case c3 => exact Nat.le_refl _
  intro w2 hown hgrow
  have hB : Below w.heap.size w w2 := (Below.refl _ _).grown hgrow (Nat.le_refl _) (by simp)
  rw [toList_madeCells_one] at hown
  obtain ⟨hh, -, -⟩ := own_full hown
  clear hgrow hi hz0 hz1 hz2 hown
  have M1 : Hid (X.length = Nat.min nx (nx + ny)) := by show X.length = _; rw [lX]; exact (Nat.min_eq_left (by omega)).symm
  have M2 : Hid (0 < X.length → some (⟨w.heap.size, 0, none⟩ : Addr) = some ⟨w.heap.size, 0, none⟩ ∧ ∃ ad, a1 = some ad ∧ ∀ j u, X[j]? = some u → w2.cell? (ad.add j) = some u) := fun hp => ⟨rfl, unhide HP1 _ hB hp⟩
  have M3 : Hid (0 + X.length ≤ (List.replicate (nx + ny) (Value.int .i64 0)).length) := by show _ ≤ _; rw [List.length_replicate]; omega
  have HH := hide hh
  clear hh
  go_wp2_with (refine wpList_copy_splice rfl _ _ _ _ rfl 2 Try.underlying24 size_int (some ⟨w.heap.size, 0, none⟩) a1 (nx + ny) (nx + ny) nx d1 (by rfl) (by rfl) w.heap.size 0 _ 2 (unhide HH) X (unhide M1) (unhide M2) (unhide M3) (unhide HC1) w.heap.size w hB (Nat.le_refl _) ?_)
  intro w3 HG3 hB3
  rw [splice_first] at HG3
  clear HH hB M1 M2 M3
  have M3 : Hid (nx + Y.length ≤ (X ++ List.replicate (nx + ny - X.length) (Value.int .i64 0)).length) := by show _ ≤ _; rw [List.length_append, List.length_replicate]; omega
  by_cases h0 : ny = 0
  · subst h0
    have M1 : Hid (Y.length = Nat.min 0 0) := lY
    have M2 : Hid (0 < Y.length → some (⟨w.heap.size, 0, none⟩ : Addr) = some ⟨w.heap.size, nx, none⟩ ∧ ∃ ad, a2 = some ad ∧ ∀ j u, Y[j]? = some u → w3.cell? (ad.add j) = some u) := fun hp => by omega
    go_wp2_with (refine wpList_copy_splice rfl _ _ _ _ rfl 2 Try.underlying24 size_int (some ⟨w.heap.size, 0, none⟩) a2 0 0 0 d2 (by rfl) (by rfl) w.heap.size nx _ 2 (unhide HG3) Y (unhide M1) (unhide M2) (unhide M3) (unhide HC2) w.heap.size w hB3 (Nat.le_refl _) ?_)
    intro w4 HG4 hB4
    have HF : Hid (w4.ownsRow w.heap.size 2 1 (.slice (some ⟨w.heap.size, 0, none⟩) nx nx) nx ((xs ++ ys).map (Value.int .i64))) := by
      refine full_own (xs := (xs ++ ys).map (Value.int .i64)) ?_ (Nat.le_refl _) ?_ (by unfold maxLen; omega)
      · have hg := unhide HG4
        rw [← lX, splice_end X Y (by omega)] at hg
        rw [List.map_append, ← unhide HX, ← unhide HY]
        exact hg
      · rw [List.map_append, ← unhide HX, ← unhide HY, List.length_append]; omega
    have HB4 := hide hB4
    clear HG3 HG4 hB3 hB4 M1 M2 M3
    go_wp2_with fail
    go_ret
    exact ⟨_, rfl, rfl, unhide HF, unhide HB4⟩
  · have hp0 : 0 < ny := by omega
    have M1 : Hid (Y.length = Nat.min ny ny) := by show Y.length = _; rw [lY]; exact (Nat.min_self _).symm
    have M2 : Hid (0 < Y.length → some (⟨w.heap.size, nx, none⟩ : Addr) = some ⟨w.heap.size, nx, none⟩ ∧ ∃ ad, a2 = some ad ∧ ∀ j u, Y[j]? = some u → w3.cell? (ad.add j) = some u) := fun hp => ⟨rfl, unhide HP2 _ hB3 hp⟩
    go_wp2_with (refine wpList_copy_splice rfl _ _ _ _ rfl 2 Try.underlying24 size_int (some ⟨w.heap.size, nx, none⟩) a2 ny ny ny d2 (by rfl) (by rfl) w.heap.size nx _ 2 (unhide HG3) Y (unhide M1) (unhide M2) (unhide M3) (unhide HC2) w.heap.size w hB3 (Nat.le_refl _) ?_)
    intro w4 HG4 hB4
    have HF : Hid (w4.ownsRow w.heap.size 2 1 (.slice (some ⟨w.heap.size, 0, none⟩) (nx + ny) (nx + ny)) (nx + ny) ((xs ++ ys).map (Value.int .i64))) := by
      refine full_own (xs := (xs ++ ys).map (Value.int .i64)) ?_ (Nat.le_refl _) ?_ (by unfold maxLen; omega)
      · have hg := unhide HG4
        rw [← lX, splice_second X Y _ _ (by omega)] at hg
        rw [List.map_append, ← unhide HX, ← unhide HY]
        exact hg
      · rw [List.map_append, ← unhide HX, ← unhide HY, List.length_append]; omega
    have HB4 := hide hB4
    clear HG3 HG4 hB3 hB4 M1 M2 M3
    go_wp2_with fail
    go_ret
    exact ⟨_, rfl, rfl, unhide HF, unhide HB4⟩

end Go.Proofs.Ytipomhpimmnchaa

namespace Go.Proofs.Ytipomhpimmnchaa
open Go.RowKit

theorem ext_setRow (w : World) (g : Nat) (cs : Array Value) : Ext (fun q => q = g) w (w.setRow g cs) := ⟨rfl, rfl, rfl, by simp [World.setRow], fun k _ hn => setRow_other w g k cs (fun e => hn e)⟩
theorem step_copy_ext {P : Program} {ops : Array Oper} {o : Oper} {a : Act} {w : World} {K : Act → World → Prop} {Q : Exit → Act → World → Prop} {E : Prop} (hgd : o.guard = none) (d s : Operand) (dT sT : TypeId)
    (ho : o.op = .call { callee := .builtin .copy, args := #[d, s], argTypes := #[dT, sT] }) (elem : TypeId) (hu : P.underlying dT = some (.slice elem)) (hsz : (P.info? elem).map (·.size) = some 1)
    (dp sp : Option Addr) (dLen dCap sLen sCap : Nat) (hd : a.eval d = .slice dp dLen dCap) (hs : a.eval s = .slice sp sLen sCap)
    (g off : Nat) (cur : List Value) (t : TypeId) (hg : w.heap[g]? = some (.cells cur.toArray t (0, 0))) (cs : List Value) (hn : cs.length = Nat.min sLen dLen)
    (hpos : 0 < cs.length → dp = some ⟨g, off, none⟩ ∧ ∃ ad, sp = some ad ∧ ∀ j v, cs[j]? = some v → w.cell? (ad.add j) = some v)
    (hfit : off + cs.length ≤ cur.length) (h1 : ∀ v ∈ cs, v.oneCell' = true)
    (h : ∀ w', Hid (w'.heap[g]? = some (.cells (splice cur off cs).toArray t (0, 0))) → Ext (fun q => q = g) w w' → K (a.put o.dst (goInt cs.length)) w') :
    if Region.wanted o (yielded ops a.tmps) = true then Oper.wp P o a w K Q else E := by
  have hw : Region.wanted o (yielded ops a.tmps) = true := by simp [Region.wanted, hgd]
  rw [if_pos hw]
  by_cases h0 : cs.length = 0
  · obtain rfl : cs = [] := List.eq_nil_of_length_eq_zero h0
    have hrun := run_copy_none (P := P) w dT sT o.type elem dp sp dLen dCap sLen sCap hu hsz (by simpa using hn.symm)
    unfold Oper.wp
    simp [execOp, ho, resolve, invoke, builtin, hd, hs, hrun, Result.andThen]
    exact h w (show _ = _ by simpa [splice] using hg) (Ext.refl _ _)
  · obtain ⟨rfl, ad, rfl, hsrc⟩ := hpos (by omega)
    have hrun := run_copy_row (P := P) w dT sT o.type elem g off dLen dCap ad sLen sCap cur.toArray t cs hu hsz hg hn hsrc (by simpa using hfit) h1
    unfold Oper.wp
    simp [execOp, ho, resolve, invoke, builtin, hd, hs, hrun, Result.andThen]
    exact h _ (show _ = _ by simpa [splice] using setRow_heap w g _ _ t _ hg) (ext_setRow w g _)

end Go.Proofs.Ytipomhpimmnchaa

namespace Go.Proofs.Ytipomhpimmnchaa
open Go.RowKit

theorem splice_at (ws : List DWrite) (k : Nat) (hk : k < ws.length) (hf : ∀ x ∈ ws.take (k + 1), wF x = 0) (h : wF ws[k] = 0) :
    splice ((packs (ws.take k)).map (Value.int .i64) ++ List.replicate (8 * (ws.length - k)) (Value.int .i64 0)) (8 * k) ((packD ws[k]).map (Value.int .i64)) = (packs (ws.take (k + 1))).map (Value.int .i64) ++ List.replicate (8 * (ws.length - (k + 1))) (Value.int .i64 0) := by
  have h0 : ∀ x ∈ ws.take k, wF x = 0 := fun x hx => hf x (by rw [List.take_succ_eq_append_getElem hk]; exact List.mem_append_left _ hx)
  have hl : ((packs (ws.take k)).map (Value.int .i64)).length = 8 * k := by rw [List.length_map, packs_len _ h0, List.length_take]; omega
  have h8 : ((packD ws[k]).map (Value.int .i64)).length = 8 := by rw [List.length_map, packD_len h]
  rw [packs_snoc ws k hk, List.map_append, List.append_assoc]
  unfold splice
  rw [h8, List.take_append_of_le_length (by omega), List.take_of_length_le (by omega)]
  congr 2
  rw [List.drop_append, List.drop_eq_nil_of_le (by omega), List.nil_append, hl, List.drop_replicate]
  congr 1
  omega

set_option maxRecDepth 100000 in
set_option maxHeartbeats 8000000 in
theorem implPackAll_few (ao : Option Addr) (cap : Nat) (ws : List DWrite) (w : World) (h : (Lay.sl Lay.tWrite).Reads w [.slice ao ws.length cap] ws) (hn : ws.length ≤ 40) :
    Calls Try.prog 14 #[.slice ao ws.length cap] w fun e w' => ∃ cs, e = .returned (.agg cs.toArray) ∧ Lay.tIntsResult.OwnIn w' cs (packAllR ws) w.heap.size w'.heap.size ∧ Below w.heap.size w w' := by
  have hnn : ¬ 40 < ws.length := by omega
  have nb : Below w.heap.size w (w.alloc (.cells #[.int .i64 0, .slice none 0 0] 26)) := (Below.refl _ _).alloc (Nat.le_refl _) _
  have bR : Box w.heap.size #[.int .i64 0, .slice none 0 0] 26 (w.alloc (.cells #[.int .i64 0, .slice none 0 0] 26)) w.heap.size := newBox (Nat.le_refl _)
  have H := hide h
  have HB := hide nb
  have HR := hide bR
  have hbig := h.big
  obtain ⟨i0, hi, hz0, hz1, hz2⟩ := info_parts info2
  clear h nb bR
  go_enter Try.func14, Try.ntmps14
  go_wp2_with (at_make; refine wpList_make_full _ rfl _ _ 24 rfl w.heap.size 2 i0 (.int .i64 0) 1 Try.underlying24 hi hz0 hz1 _ _ _ _ (8 * ws.length) rfl rfl ?c0 ?c01 ?c1 ?c2 ?c3 ?_)
  case c0 => simp
  case c01 => simp
  case c1 => rw [hz2]; omega
  case c2 => unfold maxLen; omega
  case c3 => simp
  generalize w.alloc (.cells #[.int .i64 0, .slice none 0 0] 26) = W0 at *
  intro w2 hown hgrow
  rw [toList_madeCells_one] at hown
  have hB2 : Below W0.heap.size W0 w2 := (Below.refl _ _).grown hgrow (Nat.le_refl _) (by simp)
  obtain ⟨hh, -, -⟩ := own_full hown
  have HH := hide hh
  have HR2 := hide ((unhide HR).keep hB2)
  have HB2 := hide ((unhide HB).trans (hB2.mono (unhide HB).size))
  obtain ⟨g0, hg0⟩ : ∃ g0, g0 = w.heap.size + 1 := ⟨_, rfl⟩
  have HPG : Hid (w.heap.size < g0) := by show w.heap.size < g0; omega
  rw [← hg0] at HH ⊢
  clear hgrow hi hz0 hz1 hz2 hown hh hB2 HR HB hg0
  go_wp2_with fail
  go_loopw [17] (fun i wr => ∃ k : Nat, k ≤ ws.length ∧ i = .int .i64 k ∧ (∀ j (hj : j < ws.length), j < k → wF ws[j] = 0) ∧ wr.heap[g0]? = some (.cells ((packs (ws.take k)).map (Value.int .i64) ++ List.replicate (8 * (ws.length - k)) (Value.int .i64 0)).toArray 2 (0, 0)) ∧ Box w.heap.size #[.int .i64 0, .slice none 0 0] 26 wr w.heap.size ∧ Below w.heap.size w wr) (fun i _ => ws.length - (intOf i).toNat)
  case atStart => exact ⟨0, Nat.zero_le _, rfl, fun _ _ h => by omega, unhide HH, unhide HR2, unhide HB2⟩
  case round =>
    obtain ⟨k, hk, rfl, hz, hrow, hR, hB⟩ := hrel
    clear HH HR2 HB2
    by_cases hlt : k < ws.length
    · obtain ⟨b, off, rfl, hbl⟩ := Lay.sl_addr (unhide H) (by omega)
      obtain ⟨row, hc, hr⟩ := Lay.row_at ((unhide H).later hB) hlt
      obtain ⟨a2, d2, rfl, R2⟩ := open_Write hr
      have c0 : wr.cell? ⟨b, off + k * 5, none⟩ = some (.int .i64 (ws[k]).kind) := hc 0 (by decide)
      have c1 : wr.cell? ⟨b, off + k * 5 + 1, none⟩ = some (.int .i64 (ws[k]).id) := hc 1 (by decide)
      have c2 : wr.cell? ⟨b, off + k * 5 + 2, none⟩ = some (.slice a2 (ws[k]).vec.length d2) := hc 2 (by decide)
      have c3 : wr.cell? ⟨b, off + k * 5 + 3, none⟩ = some (.int .i64 (ws[k]).session) := hc 3 (by decide)
      have c4 : wr.cell? ⟨b, off + k * 5 + 4, none⟩ = some (.int .i64 (ws[k]).seq) := hc 4 (by decide)
      have hbr : b < wr.heap.size := Nat.lt_of_lt_of_le hbl hB.size
      have HAT := hide (wsFrom_at ws k hlt hz)
      have HNX0 : Hid (wF ws[k] = 0 → ∀ j (hj : j < ws.length), j < k + 1 → wF ws[j] = 0) := by
        intro e j hj h1
        by_cases h2 : j = k
        · subst h2; exact e
        · exact hz j hj (by omega)
      have HSP : Hid ((∀ x ∈ ws.take (k + 1), wF x = 0) → wF ws[k] = 0 → splice ((packs (ws.take k)).map (Value.int .i64) ++ List.replicate (8 * (ws.length - k)) (Value.int .i64 0)) (8 * k) ((packD ws[k]).map (Value.int .i64)) = (packs (ws.take (k + 1))).map (Value.int .i64) ++ List.replicate (8 * (ws.length - (k + 1))) (Value.int .i64 0)) := splice_at ws k hlt
      have HPK : Hid (packList ws[k].kind ws[k].id ws[k].vec ws[k].session ws[k].seq = packD ws[k]) := rfl
      have HWX : Hid (writeFault ws[k].kind ws[k].id ws[k].vec ws[k].session ws[k].seq = wF ws[k]) := rfl
      have hcl : ((packs (ws.take k)).map (Value.int .i64) ++ List.replicate (8 * (ws.length - k)) (Value.int .i64 0)).length = 8 * ws.length := by
        rw [List.length_append, List.length_map, List.length_replicate, packs_len (ws.take k) (fun x hx => by
          obtain ⟨j, hj, rfl⟩ := List.getElem_of_mem hx
          rw [List.getElem_take]
          rw [List.length_take] at hj
          exact hz j (by omega) (by omega)), List.length_take]
        omega
      have HCL := hide hcl
      have HZ := hide hz
      clear hc hr hz hcl
      generalize hx : ws[k] = x at *
      clear hx
      have nb1 : Below wr.heap.size wr (wr.alloc (.cells #[.int .i64 x.kind, .int .i64 x.id, .slice a2 x.vec.length d2, .int .i64 x.session, .int .i64 x.seq] 58)) := (Below.refl _ _).alloc (Nat.le_refl _) _
      have L := hide (implPack x.kind x.id _ x.session x.seq x.vec _ ((Lay.ints_reads R2).later nb1))
      rw [unhide HPK, unhide HWX] at L
      have HN1 := hide nb1
      have HROW := hide hrow
      have HRB := hide hR
      have HBB := hide hB
      clear nb1 R2 hrow hR hB HPK HWX
      go_wp2_with fail
      refine (unhide L).mono ?_
      clear c0 c1 c2 c3 c4
      have HZ1 : Hid ((wr.alloc (.cells #[.int .i64 x.kind, .int .i64 x.id, .slice a2 x.vec.length d2, .int .i64 x.session, .int .i64 x.seq] 58)).heap.size = wr.heap.size + 1) := by show _ = _; simp
      generalize wr.alloc (.cells #[.int .i64 x.kind, .int .i64 x.id, .slice a2 x.vec.length d2, .int .i64 x.session, .int .i64 x.seq] 58) = W1 at *
      rintro e w3 ⟨r3, rfl, O3, hb3⟩
      obtain ⟨a4, c4, rfl⟩ := own_shape O3
      have hOI := Lay.ownInts (zs := packD x) (fun z hz => packList_wf z hz) (Nat.le_trans packList_len (by omega)) O3
      have nb5 : Below w3.heap.size w3 (w3.alloc (.cells #[.int .i64 (wF x), .slice a4 (packD x).length c4] 26)) := (Below.refl _ _).alloc (Nat.le_refl _) _
      have hB13 : Below wr.heap.size wr w3 := (unhide HN1).trans (hb3.mono (unhide HN1).size)
      have hB15 := hB13.trans (nb5.mono hB13.size)
      have HOI := hide (hOI.later nb5)
      have HP5 : Hid (Box 0 #[.int .i64 (wF x), .slice a4 (packD x).length c4] 26 (w3.alloc (.cells #[.int .i64 (wF x), .slice a4 (packD x).length c4] 26)) w3.heap.size) := newBox (Nat.zero_le _)
      have HR5 := hide ((unhide HRB).keep hB15)
      have HB5 := hide ((unhide HBB).trans (hB15.mono (unhide HBB).size))
      have HROW5 := hide ((hB15.block g0 (Array.getElem?_eq_some_iff.1 (unhide HROW)).1).trans (unhide HROW))
      have HG1 : Hid (g0 < W1.heap.size ∧ g0 < w3.heap.size) := by
        have h1 := (Array.getElem?_eq_some_iff.1 (unhide HROW)).1
        have h2 := unhide HZ1
        have h3 := hb3.size
        exact ⟨by omega, by omega⟩
      have HWF := hide (wF_wf x)
      have HPL : Hid ((packD x).length = if wF x = 0 then 8 else 0) := by
        show (packD x).length = _
        by_cases e : wF x = 0
        · rw [if_pos e, packD_len e]
        · rw [if_neg e, packD, packList, if_neg (show ¬ writeFault x.kind x.id x.vec x.session x.seq = 0 from e)]; rfl
      simp only [intsRes]
      clear L O3 hb3 hOI nb5 hB13 hB15 HROW HRB HBB HN1 HZ1
      have p0 := (unhide HP5).at 0 _ rfl
      simp only [List.getElem_toArray, List.getElem_cons_zero] at p0
      by_cases hx0 : wF x = 0
      · have h8 : (packD x).length = 8 := by rw [unhide HPL, if_pos hx0]
        have HNX := hide (unhide HNX0 hx0)
        obtain ⟨CS, hCS⟩ : ∃ CS, CS = (packD x).map (Value.int .i64) := ⟨_, rfl⟩
        have hcs8 : CS.length = 8 := by rw [hCS, List.length_map, h8]
        have K1 : Hid (CS.length = Nat.min 8 (8 * ws.length - 8 * k)) := by show CS.length = _; rw [hcs8]; exact (Nat.min_eq_left (by omega)).symm
        have K3 : Hid (8 * k + CS.length ≤ ((packs (ws.take k)).map (Value.int .i64) ++ List.replicate (8 * (ws.length - k)) (Value.int .i64 0)).length) := by show _ ≤ _; rw [unhide HCL, hcs8]; omega
        have K4 : Hid (∀ v ∈ CS, v.oneCell' = true) := by rw [hCS]; intro v hv; obtain ⟨z, -, rfl⟩ := List.mem_map.1 hv; rfl
        have K5 : Hid (splice ((packs (ws.take k)).map (Value.int .i64) ++ List.replicate (8 * (ws.length - k)) (Value.int .i64 0)) (8 * k) CS = (packs (ws.take (k + 1))).map (Value.int .i64) ++ List.replicate (8 * (ws.length - (k + 1))) (Value.int .i64 0)) := by
          show splice _ _ _ = _
          rw [hCS]
          refine unhide HSP (fun y hy => ?_) hx0
          obtain ⟨j, hj, rfl⟩ := List.getElem_of_mem hy
          rw [List.getElem_take]
          rw [List.length_take] at hj
          exact unhide HNX j (by omega) (by omega)
        have K2 : Hid (∀ W, Ext (fun q => q = g0) (w3.alloc (.cells #[.int .i64 (wF x), .slice a4 (packD x).length c4] 26)) W → 0 < CS.length → ∃ ad, a4 = some ad ∧ ∀ j v, CS[j]? = some v → W.cell? (ad.add j) = some v) := fun W hE hp => by
          rw [hCS]
          exact news_reads ((unhide HOI).lies.ext hE (fun q h1 h2 h3 => by have := (unhide HG1).1; omega)).reads (by omega)
        rw [h8] at HP5 HOI K2 HR5 HB5 HROW5 p0 ⊢
        rw [hx0] at HP5 HOI K2 HR5 HB5 HROW5 p0 ⊢
        clear HAT HNX0 HSP HZ hCS HPL HCL HWF HOI
        go_wp2_with fail
        clear p0
        generalize w3.alloc (.cells #[.int .i64 0, .slice a4 8 c4] 26) = W5 at *
        have hRow : W5.drew.heap[g0]? = some (.cells ((packs (ws.take k)).map (Value.int .i64) ++ List.replicate (8 * (ws.length - k)) (Value.int .i64 0)).toArray 2 (0, 0)) := unhide HROW5
        have HPB : Hid (g0 < w3.heap.size) := (unhide HG1).2
        refine wp_region_noPanic ?_
        refine wp_region_held_drew (S := fun w' => Ext (fun q => q = g0) W5 w') (by kernel_rfl) ⟨rfl, rfl, rfl, Nat.le_refl _, fun _ _ _ => rfl⟩ (fun hHeld => ?_)
        generalize W5.drew = wD at hHeld hRow ⊢
        refine wpAnyH_take (i := 0) (oi := { dst := some 30, op := Go.Op.move (Go.Operand.tmp 3), type := 24, pos := "l08_log.go:112", after := #[], guard := none }) (v := ?v0_1) rfl (by kernel_rfl) (by kernel_rfl) (by kernel_rfl) (fun _ _ _ h => h) (Or.inl ⟨by rfl, ?h0_1⟩) hHeld ?r0_1
        case h0_1 =>
          intro wS hSw
          (try dsimp only at hSw)
          go_simp
          try with_reducible rfl
        case r0_1 =>
        simp only [Act.put, List.setIfInBounds_toArray, List.set_cons_zero, List.set_cons_succ]
        refine wpAnyH_take (i := 1) (oi := { dst := some 31, op := Go.Op.move (Go.Operand.tmp 4), type := 3, pos := "l08_log.go:112", after := #[], guard := none }) (v := ?v1_2) rfl (by kernel_rfl) (by kernel_rfl) (by kernel_rfl) (fun _ _ _ h => h) (Or.inl ⟨by rfl, ?h1_2⟩) hHeld ?r1_2
        case h1_2 =>
          intro wS hSw
          (try dsimp only at hSw)
          go_simp
          try with_reducible rfl
        case r1_2 =>
        simp only [Act.put, List.setIfInBounds_toArray, List.set_cons_zero, List.set_cons_succ]
        refine wpAnyH_take (i := 2) (oi := { dst := some 32, op := Go.Op.binOp Go.BinOp.mul 3 (Go.Operand.const (Go.Value.int Go.IntKind.i64 8)) (Go.Operand.tmp 31) 3, type := 3, pos := "l08_log.go:112", after := #[{ on := 1, ground := Go.Ground.data }], guard := none }) (v := ?v2_3) rfl (by kernel_rfl) (by kernel_rfl) (by kernel_rfl) (fun _ _ _ h => h) (Or.inl ⟨by rfl, ?h2_3⟩) hHeld ?r2_3
        case h2_3 =>
          intro wS hSw
          clear hSw
          have hwr : IntKind.i64.wrap (8 * (k : Int)) = 8 * (k : Int) := by rw [IntKind.wrap_i64]; omega
          (try dsimp only at hSw)
          go_simp
          try with_reducible rfl
        case r2_3 =>
        simp only [Act.put, List.setIfInBounds_toArray, List.set_cons_zero, List.set_cons_succ]
        refine wpAnyH_take (i := 3) (oi := { dst := some 33, op := Go.Op.slice 24 (Go.Operand.tmp 30) (some (Go.Operand.tmp 32)) none none, type := 24, pos := "l08_log.go:112", after := #[{ on := 0, ground := Go.Ground.data }, { on := 2, ground := Go.Ground.data }], guard := none }) (v := ?v3_4) rfl (by kernel_rfl) (by kernel_rfl) (by kernel_rfl) (fun _ _ _ h => h) (Or.inl ⟨by rfl, ?h3_4⟩) hHeld ?r3_4
        case h3_4 =>
          intro wS hSw
          clear hSw
          have hwr : IntKind.i64.wrap (8 * (k : Int)) = 8 * (k : Int) := by rw [IntKind.wrap_i64]; omega
          have s1 : (8 : Int) * (k : Int) ≤ 8 * (ws.length : Int) := by omega
          have s3 : (0 : Int) ≤ 8 * (k : Int) := by omega
          have s4 : (8 * (k : Int)).toNat = 8 * k := by omega
          have s2 : ¬ 8 * ws.length = 8 * k := by omega
          (try dsimp only at hSw)
          go_simp
          try with_reducible rfl
        case r3_4 =>
        simp only [Act.put, List.setIfInBounds_toArray, List.set_cons_zero, List.set_cons_succ]
        refine wpAnyH_take (i := 4) (oi := { dst := some 34, op := Go.Op.fieldAddr 26 (Go.Operand.tmp 6) 1, type := 0, pos := "l08_log.go:112", after := #[], guard := none }) (v := ?v4_5) rfl (by kernel_rfl) (by kernel_rfl) (by kernel_rfl) (fun _ _ _ h => h) (Or.inl ⟨by rfl, ?h4_5⟩) hHeld ?r4_5
        case h4_5 =>
          intro wS hSw
          (try dsimp only at hSw)
          go_simp
          try with_reducible rfl
        case r4_5 =>
        simp only [Act.put, List.setIfInBounds_toArray, List.set_cons_zero, List.set_cons_succ]
        refine wpAnyH_take (i := 5) (oi := { dst := some 35, op := Go.Op.load 24 (Go.Operand.tmp 34), type := 24, pos := "l08_log.go:112", after := #[{ on := 4, ground := Go.Ground.data }], guard := none }) (v := ?v5_6) rfl (by kernel_rfl) (by kernel_rfl) (by kernel_rfl) (fun _ _ _ h => h) (Or.inl ⟨by rfl, ?h5_6⟩) hHeld ?r5_6
        case h5_6 =>
          intro wS hSw
          have y1 := ((unhide HP5).ext hSw (by have := unhide HPB; omega)).at 1 _ rfl
          simp only [List.getElem_toArray, List.getElem_cons_zero, List.getElem_cons_succ] at y1
          clear hSw
          (try dsimp only at hSw)
          go_simp
          try with_reducible rfl
        case r5_6 =>
        simp only [Act.put, List.setIfInBounds_toArray, List.set_cons_zero, List.set_cons_succ]
        refine wpAnyH_ready (rs := [6]) (by kernel_rfl) (by simp) ?_
        refine AllReadyH.cons (o := { dst := some 36, op := Go.Op.call { callee := Go.Callee.builtin Go.Builtin.copy, args := #[Go.Operand.tmp 33, Go.Operand.tmp 35], argTypes := #[24, 24] }, type := 3, pos := "l08_log.go:112", after := #[{ on := 3, ground := Go.Ground.data }, { on := 5, ground := Go.Ground.data }], guard := none }) rfl (fun K hK => ?_) AllReadyH.nil
        refine step_copy_ext rfl _ _ _ _ rfl 2 Try.underlying24 size_int (some ⟨g0, 8 * k, none⟩) a4 (8 * ws.length - 8 * k) (8 * ws.length - 8 * k) 8 c4 (by rfl) (by rfl) g0 (8 * k) _ 2 hRow CS (unhide K1) (fun hp => ⟨rfl, unhide K2 _ hHeld hp⟩) (unhide K3) (unhide K4) ?_
        intro w6 HG6 hE6
        refine hK.out _ _ (hHeld.trans hE6) (fun hHeld => ?_)
        clear hK K
        try simp only [Act.put, List.setIfInBounds_toArray, List.set_cons_zero, List.set_cons_succ]
        refine wpAnyH_done (by kernel_rfl) ?_ _
        refine NoPanic.normal ?_
        have HG9 : Hid (w6.heap[g0]? = some (.cells ((packs (ws.take (k + 1))).map (Value.int .i64) ++ List.replicate (8 * (ws.length - (k + 1))) (Value.int .i64 0)).toArray 2 (0, 0))) := by
          have hg := unhide HG6
          rw [unhide K5] at hg
          exact hg
        have HE9 := hide hHeld
        clear hHeld HG6 hE6 hRow
        go_wp2_with fail
        go_roundw
        case rel => exact ⟨k + 1, by omega, by go_num, unhide HNX, unhide HG9, (unhide HR5).ext (unhide HE9) (by have := unhide HPG; omega), (unhide HB5).trans ((unhide HE9).below (unhide HB5).size (fun q hq e => by have := unhide HPG; omega))⟩
        case measure => simp [intOf]; omega
      · have hd : (wF x != 0) = true := by simpa using hx0
        have hl0 : (packD x).length = 0 := by rw [unhide HPL, if_neg hx0]
        have HY : Hid (packAllR ws = ⟨wF x, []⟩) := by
          have e := unhide HAT hx0
          show packAllR ws = _
          rw [packAllR, if_neg hnn, e, if_neg hx0]
        have bR := unhide HR5
        have z0 := bR.at 0 _ rfl
        have z1 := bR.at 1 _ rfl
        have f0 := bR.soft 0
        have f1 := bR.soft 1
        have l0 := bR.lt
        simp only [List.getElem_toArray, List.getElem_cons_zero, List.getElem_cons_succ] at z0 z1
        clear HAT HNX0 HSP HZ HPL HCL HOI HP5 HROW5 HG1 hx0 bR HR5 hl0
        generalize wF x = c at *
        go_wp2_with fail
        refine bodyPost_ret (v := .agg #[.int .i64 c, .slice none 0 0]) (by simp [results, Try.results14, go_sem, z0, z1]) rfl ?_
        rw [unhide HY]
        exact ⟨[.int .i64 c, .slice none 0 0], rfl, own_isR (unhide HWF) nil_own, below_setAll (unhide HB5) w.heap.size 0 [.int .i64 c, .slice none 0 0] (Nat.le_refl _)⟩
    · obtain rfl : k = ws.length := by omega
      have hall : wsFrom ws = 0 := wsFrom_all ws fun j hj => hz j hj hj
      have HY : Hid (packAllR ws = ⟨0, packs ws⟩) := by show packAllR ws = _; rw [packAllR, if_neg hnn, if_pos hall]
      have hpl := packs_len ws (wsFrom_zero hall)
      rw [List.take_length, Nat.sub_self, Nat.mul_zero, List.replicate_zero, List.append_nil] at hrow
      have hO := full_own (n := 8 * ws.length) (base := g0) hrow (Nat.le_refl _) (by rw [List.length_map, hpl]) (by unfold maxLen; omega)
      have hOI := Lay.ownInts (zs := packs ws) (packs_wf ws) (by omega) (by rw [hpl]; exact hO)
      have HOI := hide hOI
      have HBB := hide hB
      have HRB := hide hR
      have z0 := hR.at 0 _ rfl
      have z1 := hR.at 1 _ rfl
      have f0 := hR.soft 0
      have f1 := hR.soft 1
      have l0 := hR.lt
      simp only [List.getElem_toArray, List.getElem_cons_zero, List.getElem_cons_succ] at z0 z1
      clear hz hrow hO hOI hB hR hall hpl
      go_wp2_with fail
      refine bodyPost_ret (v := .agg #[.int .i64 0, .slice (some ⟨g0, 0, none⟩) (8 * ws.length) (8 * ws.length)]) (by simp [results, Try.results14, go_sem, z0, z1]) rfl ?_
      rw [unhide HY]
      exact ⟨[.int .i64 0, .slice (some ⟨g0, 0, none⟩) (8 * ws.length) (8 * ws.length)], rfl, own_store (vs := [.int .i64 0, .slice (some ⟨g0, 0, none⟩) (8 * ws.length) (8 * ws.length)]) (own_isR (by decide) (unhide HOI)) (unhide HPG) (Nat.le_refl _), below_setAll (unhide HBB) w.heap.size 0 [.int .i64 0, .slice (some ⟨g0, 0, none⟩) (8 * ws.length) (8 * ws.length)] (Nat.le_refl _)⟩

set_option maxHeartbeats 400000 in
/-- PackAll of the program. -/
theorem implPackAll (v : Value) (ws : List DWrite) (w : World) (h : (Lay.sl Lay.tWrite).Reads w [v] ws) :
    Calls Try.prog 14 #[v] w fun e w' => ∃ cs, e = .returned (.agg cs.toArray) ∧ Lay.tIntsResult.OwnIn w' cs (packAllR ws) w.heap.size w'.heap.size ∧ Below w.heap.size w w' := by
  obtain ⟨ao, cap, rfl⟩ := open_sl h
  have hbig := h.big
  by_cases hn : 40 < ws.length
  · have HY : Hid (packAllR ws = ⟨2, []⟩) := by show packAllR ws = _; rw [packAllR, if_pos hn]
    clear h
    go_enter Try.func14, Try.ntmps14
    go_wp2_with fail
    refine bodyPost_ret (v := .agg #[.int .i64 2, .slice none 0 0]) (by simp [results, Try.results14, go_sem]) rfl ?_
    rw [unhide HY]
    exact ⟨[.int .i64 2, .slice none 0 0], rfl, own_isR (by decide) nil_own, (Below.refl _ _).alloc (Nat.le_refl _) _⟩
  · exact implPackAll_few ao cap ws w h (by omega)

end Go.Proofs.Ytipomhpimmnchaa

namespace Go.Proofs.Ytipomhpimmnchaa
open Go.RowKit

theorem setCells_eq (W : World) (s i : Nat) (vs : List Value) : W.setCells s i vs = setAll W s i vs := by
  induction vs generalizing W i with
  | nil => rfl
  | cons v r ih => exact ih _ _
theorem zero_int (w : World) : (zeroValue 2).run Try.prog w = .ok (.int .i64 0) w := by kernel_rfl
theorem run_clear_none {P : Program} (w : World) (t e ty : TypeId) (ht : P.underlying t = some (.slice e)) (dp : Option Addr) (c : Nat) :
    (Builtin.clear_ #[t] ty #[.slice dp 0 c]).run P w = .ok (.tuple #[]) w := by
  cases dp <;> simp [Builtin.clear_, run_underlying ht]
theorem wpList_clear_row {w : World} {ops : Array Oper} {rest : List Oper} {o : Oper} {a : Act} {Q : Exit → Act → World → Prop} (hgd : o.guard = none) (d : Operand) (dT : TypeId)
    (ho : o.op = .call { callee := .builtin .clear, args := #[d], argTypes := #[dT] }) (hu : Try.prog.underlying dT = some (.slice 2)) (dp : Option Addr) (n c : Nat) (hd : a.eval d = .slice dp n c)
    (base g off m : Nat) (xs : List Value) (hown : w.ownsRow base 2 1 (.slice (some ⟨g, 0, none⟩) m m) m xs) (hp : 0 < n → dp = some ⟨g, off, none⟩) (hfit : off + n = m)
    (h : ∀ w', Hid (w'.ownsRow base 2 1 (.slice (some ⟨g, 0, none⟩) m m) m (xs.take off ++ List.replicate n (.int .i64 0))) → Ext (fun q => q = g) w w' → wpList Try.prog ops Q rest (a.put o.dst (.tuple #[])) w') :
    wpList Try.prog ops Q (o :: rest) a w := by
  refine wpList_plain hgd fun K hK => ?_
  have hl : xs.length = m := by have := hown.1; omega
  by_cases h0 : n = 0
  · subst h0
    have hrun := run_clear_none (P := Try.prog) w dT 2 o.type hu dp c
    unfold Oper.wp
    simp [execOp, ho, resolve, invoke, builtin, hd, hrun, Result.andThen]
    refine hK _ _ (h w ?_ (Ext.refl _ _))
    rw [List.replicate_zero, List.append_nil, List.take_of_length_le (by omega)]
    exact hown
  · obtain rfl := hp (by omega)
    have hcell : ∀ j, j < n → (w.cell? ⟨g, off + j, none⟩).isSome = true := fun j hj => by
      rw [hown.cellAt (off + j) (by omega), List.getElem?_eq_getElem (by omega)]
      rfl
    have hrun := Go.Lib.run_clear_slice (P := Try.prog) w dT 2 o.type (.int .i64 0) hu zero_int rfl rfl g off n c (by omega) hcell (fun j _ => hown.frozenAt (off + j))
    rw [setCells_eq] at hrun
    unfold Oper.wp
    simp [execOp, ho, resolve, invoke, builtin, hd, hrun, Result.andThen]
    refine hK _ _ (h _ ?_ (ext_setAll (fun q => q = g) (Ext.refl _ _) g off _ rfl))
    have h1 := own_setAll hown off (List.replicate n (.int .i64 0))
    have h2 : setFrom xs off (List.replicate n (.int .i64 0)) = xs.take off ++ List.replicate n (.int .i64 0) := by
      have h3 := setFrom_app (xs.take off) (xs.drop off) (List.replicate n (.int .i64 0)) (by simp; omega)
      rw [List.take_append_drop, List.length_take, Nat.min_eq_left (by omega)] at h3
      rw [h3, List.length_replicate, List.drop_eq_nil_of_le (by simp; omega), List.append_nil]
    rw [h2] at h1
    exact h1

end Go.Proofs.Ytipomhpimmnchaa
