/-
  Texts of this proof in one: ImplDeed, ListC, ImplWOf, ImplWOfA, LayOpen, ImplStory, ImplOnce, ImplWrF, ImplNodeF, ImplClone, CloneC, ImplCopied, ImplNodeOf, ImplNodeM, ImplId, ImplTab.
  Their conditions stand in their theorems.
-/
import Derived.Test.YtbogjepkdcknfaaNt05
import Derived.Test.YtbogjepkdcknfaaNt02
import Derived.Test.YtbogjepkdcknfaaNt01
import Derived.Test.YtbogjepkdcknfaaChecked
import Derived.ProofKit
import Derived.OpenShut
import Derived.Deep.Slices
import Derived.Carry
import Derived.Deep.RegionHeld3
import Derived.Test.YtbogjepkdcknfaaNt03
import Derived.BigQuiet
import Derived.Deep.QuietTactic
import Derived.WalkSmall
import Derived.WalkKit

namespace Go.Proofs.Ytbogjepkdcknfaa
open Go.RowKit

/-- A put of three parts, and a drop, as deeds. -/
def putV (x y z : Int) : Value := .iface 124 (.agg #[.int .i64 x, .int .i64 y, .int .i64 z])
def dropV : Value := .iface 118 (.agg #[])
def deedV (k : Int) (zs : List Int) : Value := if k = 1 then putV (zs.getD 0 0) (zs.getD 1 0) (zs.getD 2 0) else dropV
def deedRes (k i : Int) (zs : List Int) (s q : Int) : Value := if writeFault k i zs s q = 0 then deedV k zs else .nilIface

def Bds (i s q : Int) : Prop := (1 ≤ i ∧ i ≤ 999) ∧ (1 ≤ s ∧ s ≤ 9) ∧ 1 ≤ q ∧ q ≤ 999
theorem bound_yes {i s q : Int} (h : Bds i s q) : boundB i s q = true := by
  obtain ⟨⟨a, b⟩, ⟨c, d⟩, e, f⟩ := h
  simp [boundB, a, b, c, d, e, f]
theorem bound_no {i s q : Int} (h : ¬ Bds i s q) : boundB i s q = false := by
  rw [Bool.eq_false_iff]
  intro hb
  simp only [boundB, Bool.and_eq_true, decide_eq_true_eq] at hb
  exact h ⟨hb.1, hb.2.1, hb.2.2⟩
theorem fault_out {k i s q : Int} {zs : List Int} (hk : kindB k zs.length = true) (h : ¬ Bds i s q) : writeFault k i zs s q = 3 := by
  rw [writeFault, hk, if_pos rfl, bound_no h]; rfl
theorem fault_drop {i s q : Int} (h : Bds i s q) : writeFault 2 i [] s q = 0 := by
  rw [writeFault, show kindB 2 ([] : List Int).length = true from rfl, if_pos rfl, bound_yes h]; rfl
theorem fault_in {k i s q : Int} {zs : List Int} (hk : kindB k zs.length = true) (h : Bds i s q) : writeFault k i zs s q = if k = 1 then vecFault zs else 0 := by
  rw [writeFault, hk, if_pos rfl, bound_yes h, if_pos rfl]

def ToldDeed (w w' : World) (e : Ending) (k i : Int) (zs : List Int) (s q : Int) : Prop := e = .returned (.tuple #[deedRes k i zs s q, .int .i64 (writeFault k i zs s q)]) ∧ Below w.heap.size w w'
theorem toldDeed_bad {w w' : World} {k i s q c : Int} {zs : List Int} (hc : writeFault k i zs s q = c) (h0 : c ≠ 0) (hb : Below w.heap.size w w') : ToldDeed w w' (.returned (.tuple #[.nilIface, .int .i64 c])) k i zs s q := by
  refine ⟨?_, hb⟩
  rw [deedRes, hc, if_neg h0]
theorem toldDeed_ok {w w' : World} {k i s q : Int} {zs : List Int} {v : Value} (hc : writeFault k i zs s q = 0) (hv : v = deedV k zs) (hb : Below w.heap.size w w') : ToldDeed w w' (.returned (.tuple #[v, .int .i64 0])) k i zs s q := by
  refine ⟨?_, hb⟩
  rw [deedRes, hc, if_pos rfl, hv]

theorem isIdC (n : Int) (w : World) : Calls Try.prog 98 #[.int .i64 n] w fun e w' => e = .returned (.bool (decide (1 ≤ n) && decide (n ≤ 999))) ∧ w' = w := by
  by_cases h1 : 1 ≤ n
  · have d1 : decide (1 ≤ n) = true := by simpa using h1
    rw [d1]
    cases d2 : decide (n ≤ 999) <;>
    · go_enter Try.func98, Try.ntmps98
      go_wp2
      go_ret
      exact ⟨rfl, rfl⟩
  · have d1 : decide (1 ≤ n) = false := by simpa using h1
    rw [d1]
    go_enter Try.func98, Try.ntmps98
    go_wp2
    go_ret
    exact ⟨rfl, rfl⟩
theorem isSessionC (n : Int) (w : World) : Calls Try.prog 99 #[.int .i64 n] w fun e w' => e = .returned (.bool (decide (1 ≤ n) && decide (n ≤ 9))) ∧ w' = w := by
  by_cases h1 : 1 ≤ n
  · have d1 : decide (1 ≤ n) = true := by simpa using h1
    rw [d1]
    cases d2 : decide (n ≤ 9) <;>
    · go_enter Try.func99, Try.ntmps99
      go_wp2
      go_ret
      exact ⟨rfl, rfl⟩
  · have d1 : decide (1 ≤ n) = false := by simpa using h1
    rw [d1]
    go_enter Try.func99, Try.ntmps99
    go_wp2
    go_ret
    exact ⟨rfl, rfl⟩
theorem isSeqC (n : Int) (w : World) : Calls Try.prog 100 #[.int .i64 n] w fun e w' => e = .returned (.bool (decide (1 ≤ n) && decide (n ≤ 999))) ∧ w' = w := by
  by_cases h1 : 1 ≤ n
  · have d1 : decide (1 ≤ n) = true := by simpa using h1
    rw [d1]
    cases d2 : decide (n ≤ 999) <;>
    · go_enter Try.func100, Try.ntmps100
      go_wp2
      go_ret
      exact ⟨rfl, rfl⟩
  · have d1 : decide (1 ≤ n) = false := by simpa using h1
    rw [d1]
    go_enter Try.func100, Try.ntmps100
    go_wp2
    go_ret
    exact ⟨rfl, rfl⟩

set_option maxHeartbeats 2000000 in
theorem deedOf_put_out (i : Int) (ao : Option Addr) (cap : Nat) (s q : Int) (zs : List Int) (w : World) (hb : ¬ Bds i s q) :
    Calls Try.prog 81 #[.agg #[.int .i64 1, .int .i64 i, .slice ao zs.length cap, .int .i64 s, .int .i64 q]] w fun e w' => ToldDeed w w' e 1 i zs s q := by
  have HB : Hid (∀ o, Below w.heap.size w (w.alloc o)) := fun o => (Below.refl _ _).alloc (Nat.le_refl _) o
  have HF : Hid (writeFault 1 i zs s q = 3) := fault_out rfl hb
  have hbb := bound_no hb
  unfold boundB at hbb
  clear hb
  cases dI : (decide (1 ≤ i) && decide (i ≤ 999)) with
  | false =>
    clear hbb
    go_enter Try.func81, Try.ntmps81
    go_wp2_with fail
    refine (isIdC i _).mono ?_
    rintro e w1 ⟨rfl, rfl⟩
    rw [dI]
    go_wp2_with fail
    go_ret2
    exact toldDeed_bad (unhide HF) (by omega) (unhide HB _)
  | true =>
    cases dS : (decide (1 ≤ s) && decide (s ≤ 9)) with
    | false =>
      clear hbb
      go_enter Try.func81, Try.ntmps81
      go_wp2_with fail
      refine (isIdC i _).mono ?_
      rintro e w1 ⟨rfl, rfl⟩
      rw [dI]
      go_wp2_with fail
      refine (isSessionC s _).mono ?_
      rintro e w1 ⟨rfl, rfl⟩
      rw [dS]
      go_wp2_with fail
      go_ret2
      exact toldDeed_bad (unhide HF) (by omega) (unhide HB _)
    | true =>
      have dQ : (decide (1 ≤ q) && decide (q ≤ 999)) = false := by rw [dI, dS] at hbb; simpa using hbb
      clear hbb
      go_enter Try.func81, Try.ntmps81
      go_wp2_with fail
      refine (isIdC i _).mono ?_
      rintro e w1 ⟨rfl, rfl⟩
      rw [dI]
      go_wp2_with fail
      refine (isSessionC s _).mono ?_
      rintro e w1 ⟨rfl, rfl⟩
      rw [dS]
      go_wp2_with fail
      refine (isSeqC q _).mono ?_
      rintro e w1 ⟨rfl, rfl⟩
      rw [dQ]
      go_wp2_with fail
      go_ret2
      exact toldDeed_bad (unhide HF) (by omega) (unhide HB _)

set_option maxHeartbeats 2000000 in
theorem deedOf_drop_out (i : Int) (ao : Option Addr) (cap : Nat) (s q : Int) (w : World) (hb : ¬ Bds i s q) :
    Calls Try.prog 81 #[.agg #[.int .i64 2, .int .i64 i, .slice ao 0 cap, .int .i64 s, .int .i64 q]] w fun e w' => ToldDeed w w' e 2 i [] s q := by
  have HB : Hid (∀ o, Below w.heap.size w (w.alloc o)) := fun o => (Below.refl _ _).alloc (Nat.le_refl _) o
  have HF : Hid (writeFault 2 i [] s q = 3) := fault_out rfl hb
  have hbb := bound_no hb
  unfold boundB at hbb
  clear hb
  cases dI : (decide (1 ≤ i) && decide (i ≤ 999)) with
  | false =>
    clear hbb
    go_enter Try.func81, Try.ntmps81
    go_wp2_with fail
    refine (isIdC i _).mono ?_
    rintro e w1 ⟨rfl, rfl⟩
    rw [dI]
    go_wp2_with fail
    go_ret2
    exact toldDeed_bad (unhide HF) (by omega) (unhide HB _)
  | true =>
    cases dS : (decide (1 ≤ s) && decide (s ≤ 9)) with
    | false =>
      clear hbb
      go_enter Try.func81, Try.ntmps81
      go_wp2_with fail
      refine (isIdC i _).mono ?_
      rintro e w1 ⟨rfl, rfl⟩
      rw [dI]
      go_wp2_with fail
      refine (isSessionC s _).mono ?_
      rintro e w1 ⟨rfl, rfl⟩
      rw [dS]
      go_wp2_with fail
      go_ret2
      exact toldDeed_bad (unhide HF) (by omega) (unhide HB _)
    | true =>
      have dQ : (decide (1 ≤ q) && decide (q ≤ 999)) = false := by rw [dI, dS] at hbb; simpa using hbb
      clear hbb
      go_enter Try.func81, Try.ntmps81
      go_wp2_with fail
      refine (isIdC i _).mono ?_
      rintro e w1 ⟨rfl, rfl⟩
      rw [dI]
      go_wp2_with fail
      refine (isSessionC s _).mono ?_
      rintro e w1 ⟨rfl, rfl⟩
      rw [dS]
      go_wp2_with fail
      refine (isSeqC q _).mono ?_
      rintro e w1 ⟨rfl, rfl⟩
      rw [dQ]
      go_wp2_with fail
      go_ret2
      exact toldDeed_bad (unhide HF) (by omega) (unhide HB _)

set_option maxHeartbeats 2000000 in
theorem deedOf_drop (i : Int) (ao : Option Addr) (cap : Nat) (s q : Int) (w : World) (hb : Bds i s q) :
    Calls Try.prog 81 #[.agg #[.int .i64 2, .int .i64 i, .slice ao 0 cap, .int .i64 s, .int .i64 q]] w fun e w' => ToldDeed w w' e 2 i [] s q := by
  have HB : Hid (∀ o, Below w.heap.size w (w.alloc o)) := fun o => (Below.refl _ _).alloc (Nat.le_refl _) o
  have HF : Hid (writeFault 2 i [] s q = 0) := fault_drop hb
  obtain ⟨⟨i1, i2⟩, ⟨s1, s2⟩, q1, q2⟩ := hb
  have dI : (decide (1 ≤ i) && decide (i ≤ 999)) = true := by simp [i1, i2]
  have dS : (decide (1 ≤ s) && decide (s ≤ 9)) = true := by simp [s1, s2]
  have dQ : (decide (1 ≤ q) && decide (q ≤ 999)) = true := by simp [q1, q2]
  go_enter Try.func81, Try.ntmps81
  go_wp2_with fail
  refine (isIdC i _).mono ?_
  rintro e w1 ⟨rfl, rfl⟩
  rw [dI]
  go_wp2_with fail
  refine (isSessionC s _).mono ?_
  rintro e w1 ⟨rfl, rfl⟩
  rw [dS]
  go_wp2_with fail
  refine (isSeqC q _).mono ?_
  rintro e w1 ⟨rfl, rfl⟩
  rw [dQ]
  go_wp2_with fail
  go_ret2
  exact toldDeed_ok (unhide HF) rfl (unhide HB _)

set_option maxHeartbeats 1000000 in
theorem deedOf_many (i : Int) (ao : Option Addr) (cap n : Nat) (s q : Int) (zs : List Int) (w : World) (hn : zs.length = n + 1) :
    Calls Try.prog 81 #[.agg #[.int .i64 2, .int .i64 i, .slice ao (n + 1) cap, .int .i64 s, .int .i64 q]] w fun e w' => ToldDeed w w' e 2 i zs s q := by
  have B0 : ∀ o, Below w.heap.size w (w.alloc o) := fun o => (Below.refl _ _).alloc (Nat.le_refl _) o
  have HB := hide B0
  have hF : writeFault 2 i zs s q = 1 := by
    have : kindB 2 zs.length = false := by simp [kindB]; omega
    rw [writeFault, this]; rfl
  have HF := hide hF
  clear B0 hF hn
  go_enter Try.func81, Try.ntmps81
  go_wp2
  go_ret2
  exact toldDeed_bad (unhide HF) (by omega) (unhide HB _)

set_option maxHeartbeats 1000000 in
theorem deedOf_none (k i : Int) (ao : Option Addr) (cap : Nat) (s q : Int) (zs : List Int) (w : World) (h1 : k ≠ 1) (h2 : k ≠ 2) :
    Calls Try.prog 81 #[.agg #[.int .i64 k, .int .i64 i, .slice ao zs.length cap, .int .i64 s, .int .i64 q]] w fun e w' => ToldDeed w w' e k i zs s q := by
  have B0 : ∀ o, Below w.heap.size w (w.alloc o) := fun o => (Below.refl _ _).alloc (Nat.le_refl _) o
  have HB := hide B0
  have hF : writeFault k i zs s q = 1 := by
    have : kindB k zs.length = false := by simp [kindB]; omega
    rw [writeFault, this]; rfl
  have HF := hide hF
  clear B0 hF
  go_enter Try.func81, Try.ntmps81
  go_wp2
  go_ret2
  exact toldDeed_bad (unhide HF) (by omega) (unhide HB _)

theorem vectorOf_any (v : Value) (zs : List Int) (w : World) (h : IsInts w v zs) :
    Calls Try.prog 101 #[v] w fun e w' => e = .returned (.tuple #[if vecFault zs = 0 then arr3 (zs.getD 0 0) (zs.getD 1 0) (zs.getD 2 0) else arr3 0 0 0, .int .i64 (vecFault zs)]) ∧ Below w.heap.size w w' := by
  by_cases hf : vecFault zs = 0
  · obtain ⟨hl, -⟩ := vecFault_zero hf
    match zs, hl with
    | [x, y, z], _ =>
      rw [if_pos hf]
      refine (vectorOf_ok v x y z w h hf).mono ?_
      rintro e w' ⟨rfl, hb⟩
      exact ⟨by rw [hf]; rfl, hb⟩
  · rw [if_neg hf]
    exact vectorOf_bad v zs w h hf

set_option maxHeartbeats 2000000 in
theorem deedOf_put (i : Int) (ao : Option Addr) (cap : Nat) (s q : Int) (zs : List Int) (w : World) (h : IsInts w (.slice ao zs.length cap) zs) (hb : Bds i s q) :
    Calls Try.prog 81 #[.agg #[.int .i64 1, .int .i64 i, .slice ao zs.length cap, .int .i64 s, .int .i64 q]] w fun e w' => ToldDeed w w' e 1 i zs s q := by
  have B0 : Below w.heap.size w (w.alloc (.cells #[.int .i64 1, .int .i64 i, .slice ao zs.length cap, .int .i64 s, .int .i64 q] 83)) := (Below.refl _ _).alloc (Nat.le_refl _) _
  have HB := hide B0
  have H := hide (h.later B0)
  clear h B0
  have HF : Hid (writeFault 1 i zs s q = vecFault zs) := fault_in rfl hb
  obtain ⟨⟨i1, i2⟩, ⟨s1, s2⟩, q1, q2⟩ := hb
  have dI : (decide (1 ≤ i) && decide (i ≤ 999)) = true := by simp [i1, i2]
  have dS : (decide (1 ≤ s) && decide (s ≤ 9)) = true := by simp [s1, s2]
  have dQ : (decide (1 ≤ q) && decide (q ≤ 999)) = true := by simp [q1, q2]
  go_enter Try.func81, Try.ntmps81
  go_wp2_with fail
  refine (isIdC i _).mono ?_
  rintro e w1 ⟨rfl, rfl⟩
  rw [dI]
  go_wp2_with fail
  refine (isSessionC s _).mono ?_
  rintro e w1 ⟨rfl, rfl⟩
  rw [dS]
  go_wp2_with fail
  refine (isSeqC q _).mono ?_
  rintro e w1 ⟨rfl, rfl⟩
  rw [dQ]
  go_wp2_with fail
  refine (vectorOf_any _ zs _ (unhide H)).mono ?_
  rintro e w1 ⟨rfl, hb1⟩
  have HB1 := hide ((unhide HB).trans (hb1.mono (unhide HB).size))
  have hz : w.heap.size ≤ w1.heap.size := (unhide HB1).size
  clear HB hb1 H
  generalize hV : vecFault zs = F at *
  by_cases hf : F = 0
  · subst hf
    rw [if_pos rfl]
    simp only [arr3]
    go_wp2_with fail
    go_ret2
    refine toldDeed_ok (unhide HF) ?_ ?_
    · rw [deedV, if_pos rfl]; rfl
    · exact (unhide HB1).alloc hz _
  · rw [if_neg hf]
    have hd : (F != 0) = true := by rw [bne_iff_ne]; exact hf
    have HN := hide hf
    clear hf
    simp only [arr3]
    go_wp2_with fail
    go_ret2
    exact toldDeed_bad (unhide HF) (unhide HN) ((unhide HB1).alloc hz _)

/-- deedOf of the program. -/
theorem implDeed (k i : Int) (v : Value) (s q : Int) (zs : List Int) (w : World) (h : IsInts w v zs) :
    Calls Try.prog 81 #[.agg #[.int .i64 k, .int .i64 i, v, .int .i64 s, .int .i64 q]] w fun e w' => ToldDeed w w' e k i zs s q := by
  have h' := h
  obtain ⟨ao, cap, rfl, -⟩ := h'
  by_cases h1 : k = 1
  · subst h1
    by_cases hb : Bds i s q
    · exact deedOf_put i ao cap s q zs w h hb
    · exact deedOf_put_out i ao cap s q zs w hb
  · by_cases h2 : k = 2
    · subst h2
      rcases Nat.eq_zero_or_pos zs.length with h0 | h0
      · obtain rfl : zs = [] := List.eq_nil_of_length_eq_zero h0
        by_cases hb : Bds i s q
        · exact deedOf_drop i ao cap s q w hb
        · exact deedOf_drop_out i ao cap s q w hb
      · obtain ⟨n, hn⟩ : ∃ n, zs.length = n + 1 := ⟨zs.length - 1, by omega⟩
        rw [hn]
        exact deedOf_many i ao cap n s q zs w hn
    · exact deedOf_none k i ao cap s q zs w h1 h2

end Go.Proofs.Ytbogjepkdcknfaa

namespace Go.Proofs.Ytbogjepkdcknfaa
open Go.RowKit

set_option maxHeartbeats 400000 in
theorem listOf3 (x y z : Int) (w : World) :
    Calls Try.prog 106 #[arr3 x y z] w fun e w' => e = .returned (.slice (some ⟨w.heap.size + 1, 0, none⟩) 3 3) ∧
      (w.alloc (.cells #[.int .i64 x, .int .i64 y, .int .i64 z] 120)).alloc (.cells #[.int .i64 x, .int .i64 y, .int .i64 z] 2) = w' := by
  have hmk : ∀ w : World, (Instr.makeSlice 79 (.int .i64 3) (.int .i64 3)).run Try.prog w = .ok (.slice (some ⟨w.heap.size, 0, none⟩) 3 3) (w.alloc (.cells #[.int .i64 0, .int .i64 0, .int .i64 0] 2)) := fun _ => by kernel_rfl
  have i0 : ∀ w : World, (Instr.index 120 (.agg #[.int .i64 x, .int .i64 y, .int .i64 z]) (.int .i64 0)).run Try.prog w = .ok (.int .i64 x) w := fun _ => by kernel_rfl
  have i1 : ∀ w : World, (Instr.index 120 (.agg #[.int .i64 x, .int .i64 y, .int .i64 z]) (.int .i64 1)).run Try.prog w = .ok (.int .i64 y) w := fun _ => by kernel_rfl
  have i2 : ∀ w : World, (Instr.index 120 (.agg #[.int .i64 x, .int .i64 y, .int .i64 z]) (.int .i64 2)).run Try.prog w = .ok (.int .i64 z) w := fun _ => by kernel_rfl
  simp only [arr3]
  go_enter Try.func106, Try.ntmps106
  go_wp2
  refine wp_loop_rounds 4 ?_
  rw [rounds_succ]
  go_wp2
  rw [rounds_succ]
  go_wp2
  rw [rounds_succ]
  go_wp2
  rw [rounds_succ]
  go_wp2
  go_ret
  exact ⟨rfl, rfl⟩

end Go.Proofs.Ytbogjepkdcknfaa

namespace Go.Proofs.Ytbogjepkdcknfaa
open Go.RowKit

theorem listOwn (x y z : Int) (w : World) (hw : ∀ a ∈ [x, y, z], (Lit.int .i64 a).wf = true) :
    Calls Try.prog 106 #[arr3 x y z] w fun e w' => ∃ g, e = .returned (.slice (some ⟨g, 0, none⟩) 3 3) ∧ (Lay.sl Lay.int).OwnIn w' [.slice (some ⟨g, 0, none⟩) 3 3] [x, y, z] w.heap.size w'.heap.size ∧ Below w.heap.size w w' := by
  refine (listOf3 x y z w).mono ?_
  rintro e w' ⟨rfl, rfl⟩
  refine ⟨w.heap.size + 1, rfl, ?_, ((Below.refl _ _).alloc (Nat.le_refl _) _).alloc (by simp) _⟩
  refine Lay.ownInts (zs := [x, y, z]) (base := w.heap.size) (T := 2) hw (by simp) ?_
  exact own_new3 (W := w.alloc _) (by simp) (by simp)

end Go.Proofs.Ytbogjepkdcknfaa

namespace Go.Proofs.Ytbogjepkdcknfaa
open Go.RowKit

theorem assertDP (v : Value) (w : World) : (Instr.typeAssert (.iface 118 v) 97 124 true).run Try.prog w = .ok (.tuple #[.agg #[.int .i64 0, .int .i64 0, .int .i64 0], .bool false]) w := by kernel_rfl
theorem assertDD (v : Value) (w : World) : (Instr.typeAssert (.iface 118 v) 97 118 true).run Try.prog w = .ok (.tuple #[v, .bool true]) w := by kernel_rfl

set_option maxRecDepth 10000 in
set_option maxHeartbeats 400000 in
theorem writeOf_drop (i s q : Int) (w : World) :
    Calls Try.prog 111 #[dropV, .int .i64 i, .int .i64 s, .int .i64 q] w fun e w' => e = .returned (.agg #[.int .i64 2, .int .i64 i, .slice none 0 0, .int .i64 s, .int .i64 q]) ∧ Below w.heap.size w w' := by
  have a1 := assertDP
  have a2 := assertDD
  have HB : Hid (∀ o o' o'', Below w.heap.size w (((w.alloc o).alloc o').alloc o'')) := fun o o' o'' => (((Below.refl _ _).alloc (Nat.le_refl _) _).alloc (by simp) _).alloc (by simp; omega) _
  simp only [dropV] at *
  go_enter Try.func111, Try.ntmps111
  go_wp2_with fail
  refine bodyPost_ret (v := .agg #[.int .i64 2, .int .i64 i, .slice none 0 0, .int .i64 s, .int .i64 q]) (by simp [results, Try.results111, go_sem]) rfl ?_
  exact ⟨rfl, unhide HB _ _ _⟩

theorem assertPP (v : Value) (w : World) : (Instr.typeAssert (.iface 124 v) 97 124 true).run Try.prog w = .ok (.tuple #[v, .bool true]) w := by kernel_rfl

theorem listOfO (x y z : Int) (w : World) :
    Calls Try.prog 106 #[.agg #[.int .i64 x, .int .i64 y, .int .i64 z]] w fun e w' => ∃ a c, e = .returned (.slice a 3 c) ∧ w'.ownsRow w.heap.size 2 1 (.slice a 3 c) 3 [.int .i64 x, .int .i64 y, .int .i64 z] ∧ Below w.heap.size w w' := by
  refine (listOf3 x y z w).mono ?_
  rintro e w' ⟨rfl, rfl⟩
  exact ⟨_, _, rfl, own_new3 (W := w.alloc (.cells #[.int .i64 x, .int .i64 y, .int .i64 z] 120)) (base := w.heap.size) (T := 2) (by simp) (by simp), ((Below.refl _ _).alloc (Nat.le_refl _) _).alloc (by simp) _⟩

/-- The vector stored into the write, and the write into the result's block. -/
theorem storeO {w w1 : World} {sx : Nat} {u : Value} {xs : List Value} {B : Nat} {vs : List Value} (hsx : w.heap.size < sx) (hB : sx < B) (O : w1.ownsRow B 2 1 u 3 xs) (hb : Below w.heap.size w w1) :
    (setAll (w1.setCell ⟨sx, 2, none⟩ u) w.heap.size 0 vs).ownsRow B 2 1 u 3 xs ∧ Below w.heap.size w (setAll (w1.setCell ⟨sx, 2, none⟩ u) w.heap.size 0 vs) := by
  have h1 := own_setC (a := ⟨sx, 2, none⟩) O (by simpa using hB) u
  have h2 : Below w.heap.size w (w1.setCell ⟨sx, 2, none⟩ u) := hb.setCell (by simp; omega) _
  refine ⟨?_, below_setAll h2 _ _ _ (Nat.le_refl _)⟩
  have : ∀ (l : List Value) (i : Nat) (W : World), W.ownsRow B 2 1 u 3 xs → (setAll W w.heap.size i l).ownsRow B 2 1 u 3 xs := by
    intro l
    induction l with
    | nil => intro i W h; exact h
    | cons v l ih => intro i W h; exact ih (i + 1) _ (own_setC (a := ⟨w.heap.size, i, none⟩) h (by simp; omega) v)
  exact this vs 0 _ h1

set_option maxRecDepth 10000 in
set_option maxHeartbeats 600000 in
theorem writeOf_put (x y z i s q : Int) (w : World) :
    Calls Try.prog 111 #[putV x y z, .int .i64 i, .int .i64 s, .int .i64 q] w fun e w' => ∃ a c, e = .returned (.agg #[.int .i64 1, .int .i64 i, .slice a 3 c, .int .i64 s, .int .i64 q]) ∧ w'.ownsRow w.heap.size 2 1 (.slice a 3 c) 3 [.int .i64 x, .int .i64 y, .int .i64 z] ∧ Below w.heap.size w w' := by
  have a1 := assertPP
  have L := hide (fun W => listOfO x y z W)
  simp only [putV] at *
  go_enter Try.func111, Try.ntmps111
  go_wp2_with fail
  obtain ⟨W, hW⟩ : ∃ W, W = ((w.alloc (.cells #[.int .i64 0, .int .i64 0, .slice none 0 0, .int .i64 0, .int .i64 0] 83)).alloc (.cells #[.int .i64 1, .int .i64 i, .slice none 0 0, .int .i64 s, .int .i64 q] 83)).alloc (.cells #[.int .i64 x, .int .i64 y, .int .i64 z] 124) := ⟨_, rfl⟩
  have n1 : Below w.heap.size w (w.alloc (.cells #[.int .i64 0, .int .i64 0, .slice none 0 0, .int .i64 0, .int .i64 0] 83)) := (Below.refl _ _).alloc (Nat.le_refl _) _
  have bR : Box 0 #[.int .i64 0, .int .i64 0, .slice none 0 0, .int .i64 0, .int .i64 0] 83 W w.heap.size := by rw [hW]; exact ((newBox (Nat.zero_le _)).grow _).grow _
  have bX : Box 0 #[.int .i64 1, .int .i64 i, .slice none 0 0, .int .i64 s, .int .i64 q] 83 W (w.heap.size + 1) := by rw [hW]; exact (newBoxAt (by omega) (by simp)).grow _
  have HB : Hid (Below w.heap.size w W) := by rw [hW]; exact (n1.alloc (by simp) _).alloc (by simp; omega) _
  rw [← hW]
  clear hW n1
  refine (unhide L _).mono ?_
  rintro e w1 ⟨a, c, rfl, O, hb⟩
  have hsx : w.heap.size < w.heap.size + 1 := by omega
  generalize w.heap.size + 1 = sx at *
  have hX := bX.lt
  replace bR := bR.keep hb
  replace bX := bX.keep hb
  replace HB := hide ((unhide HB).trans (hb.mono (unhide HB).size))
  have x0 := bX.at 0 _ rfl
  have x1 := bX.at 1 _ rfl
  have x2 := bX.at 2 _ rfl
  have x3 := bX.at 3 _ rfl
  have x4 := bX.at 4 _ rfl
  have xf := bX.soft
  have xl := bX.lt
  have r0 := bR.at 0 _ rfl
  have r1 := bR.at 1 _ rfl
  have r2 := bR.at 2 _ rfl
  have r3 := bR.at 3 _ rfl
  have r4 := bR.at 4 _ rfl
  have rf := bR.soft
  have rl := bR.lt
  have HO := hide O
  clear bR bX hb O L
  simp only [List.getElem_toArray, List.getElem_cons_zero, List.getElem_cons_succ] at x0 x1 x2 x3 x4 r0 r1 r2 r3 r4
  go_wp2_with fail
  refine bodyPost_ret (v := .agg #[.int .i64 1, .int .i64 i, .slice a 3 c, .int .i64 s, .int .i64 q]) (by simp [results, Try.results111, go_sem, r0, r1, r2, r3, r4]) rfl ?_
  obtain ⟨s1, s2⟩ := storeO (vs := [.int .i64 1, .int .i64 i, .slice a 3 c, .int .i64 s, .int .i64 q]) hsx hX (unhide HO) (unhide HB)
  exact ⟨a, c, rfl, own_mono (by omega) s1, s2⟩

end Go.Proofs.Ytbogjepkdcknfaa

namespace Go.Proofs.Ytbogjepkdcknfaa
open Go.RowKit

theorem writeOfC (x : DWrite) (w : World) (hf : wF x = 0) :
    Calls Try.prog 111 #[deedV x.kind x.vec, .int .i64 x.id, .int .i64 x.session, .int .i64 x.seq] w fun e w' => ∃ cs, e = .returned (.agg cs.toArray) ∧ Lay.tWrite.OwnIn w' cs x w.heap.size w'.heap.size ∧ Below w.heap.size w w' := by
  obtain ⟨kd, id, vec, ss, sq⟩ := x
  obtain ⟨hi, hs, hq, hk⟩ := writeFault_zero hf
  simp only at hi hs hq hk
  have w1 : (Lit.int .i64 id).wf = true := wf_of_bd (by omega)
  have w3 : (Lit.int .i64 ss).wf = true := wf_of_bd (by omega)
  have w4 : (Lit.int .i64 sq).wf = true := wf_of_bd (by omega)
  rcases hk with ⟨rfl, hv⟩ | ⟨rfl, hv⟩
  · obtain ⟨hl, hb⟩ := vecFault_zero hv
    match vec, hl with
    | [p, q, r], _ =>
      refine (writeOf_put p q r id ss sq w).mono ?_
      rintro e w' ⟨a, c, rfl, hO, hb2⟩
      have hO2 := Lay.ownInts (zs := [p, q, r]) (fun z hz => wf_of_bd (by have h0 := hb 0 (by decide); have h1 := hb 1 (by decide); have h2 := hb 2 (by decide); simp at h0 h1 h2 hz; omega)) (by simp) hO
      obtain ⟨bl, O, hr⟩ := hO2
      exact ⟨_, rfl, ⟨bl, mkOwn_Write (x := ⟨1, id, [p, q, r], ss, sq⟩) O (show (Lit.int .i64 1).wf = true by decide) w1 w3 w4 O.2.1, hr⟩, hb2⟩
  · subst hv
    refine (writeOf_drop id ss sq w).mono ?_
    rintro e w' ⟨rfl, hb2⟩
    exact ⟨_, rfl, ⟨[], mkOwn_Write (x := ⟨2, id, [], ss, sq⟩) (c2 := [.slice none 0 0]) ⟨⟨none, 0, rfl, by simp, Or.inl ⟨rfl, rfl⟩⟩, by simp, by simp⟩ (show (Lit.int .i64 2).wf = true by decide) w1 w3 w4 (by simp), by simp⟩, hb2⟩

end Go.Proofs.Ytbogjepkdcknfaa

namespace Go.Proofs.Ytbogjepkdcknfaa
open Go.RowKit Go.ChangeShapes Go.WideShapes

/-- Whatever reads as data of the type t lies as A says. -/
def Opens {α : Type} (A : Lay α) (t : TypeId) : Prop :=
  ∀ {H : Type} (enc : TypeId × Value → H) (W : World) (base : Nat) (spare : Nat → Bool) (held : Bool) (fuel : Nat) (cs : List Value) (x : DataW H × List MemPlace), DataW.trod enc Try.prog W base spare held fuel t cs = some x → ∃ y, A.Reads W cs y

theorem reads_pair {α β : Type} {A : Lay α} {B : Lay β} {W : World} {c1 c2 : List Value} {x : α} {y : β} (h : A.Reads W c1 x) (k : B.Reads W c2 y) : (Lay.pair A B).Reads W (c1 ++ c2) (x, y) := by
  obtain ⟨b1, h⟩ := h
  obtain ⟨b2, k⟩ := k
  exact ⟨b1 ++ b2, c1, c2, b1, b2, rfl, rfl, h, k⟩

theorem opens_int {t : TypeId} (ht : Try.prog.underlying t = some (.int .i64)) : Opens Lay.int t := by
  intro H enc W base spare held fuel cs x h
  obtain ⟨n, rfl, -, hw⟩ := DataW.trod_int ht h
  exact ⟨n, [], rfl, hw, rfl⟩
theorem opens_bool {t : TypeId} (ht : Try.prog.underlying t = some .bool) : Opens Lay.bool t := by
  intro H enc W base spare held fuel cs x h
  obtain ⟨b, rfl, -⟩ := DataW.trod_bool ht h
  exact ⟨b, [], rfl, rfl⟩
theorem opens_str {t : TypeId} (ht : Try.prog.underlying t = some .string) : Opens Lay.str t := by
  intro H enc W base spare held fuel cs x h
  obtain ⟨s, rfl, -, -⟩ := DataW.trod_string ht h
  exact ⟨s, [], rfl, rfl⟩

theorem opens_sl {α : Type} {A : Lay α} {t e : TypeId} (ht : Try.prog.underlying t = some (.slice e)) (hn : Try.prog.cellsOf e = A.n) (h0 : 0 < A.n) (h : Opens A e) : Opens (Lay.sl A) t := by
  intro H enc W base spare held fuel cs x hx
  rcases Go.Deep.open_slice ht hx with ⟨rfl, -⟩ | ⟨a, len, cap, m, n, D, Pl, rfl, hb, hl, hm, hmm, -, hel⟩
  · exact ⟨[], [], none, 0, rfl, ⟨Nat.le_refl _, by simp⟩, Or.inl ⟨rfl, rfl⟩⟩
  · have hlm : len ≤ m := by rw [hmm]; split <;> omega
    rw [hn] at hel
    have each : ∀ i, i < len → ∃ q : List Value × α, (∀ j, j < A.n → W.cell? (a.add (i * A.n + j)) = q.1[j]?) ∧ q.1.length = A.n ∧ A.Reads W q.1 q.2 := by
      intro i hi
      obtain ⟨cs', h1, h2⟩ := hel i (by omega)
      obtain ⟨-, hlen, hc⟩ := World.cells?_some h1
      obtain ⟨y, hy⟩ := h enc W base spare held n cs' _ h2
      refine ⟨(cs', y), fun j hj => ?_, hlen, hy⟩
      have := hc j hj
      rw [Addr.add_add] at this
      exact this
    by_cases hp : 0 < len
    · obtain ⟨b, off, spot⟩ := a
      obtain ⟨q0, c0, l0, -⟩ := each 0 hp
      have hc0 := c0 0 h0
      have hs0 : ∃ v, W.cell? ((⟨b, off, spot⟩ : Addr).add (0 * A.n + 0)) = some v := ⟨_, hc0.trans (List.getElem?_eq_getElem (by omega))⟩
      obtain ⟨v0, hv0⟩ := hs0
      have hspot : spot = none := by simpa [Addr.add] using World.cell?_spot hv0
      subst hspot
      have hbl : b < W.heap.size := by
        have := World.block_lt_of_cell? _ _ hv0
        simpa [Addr.add] using this
      have pick : ∃ f : (i : Nat) → i < len → List Value × α, ∀ i (hi : i < len), (∀ j, j < A.n → W.cell? ((⟨b, off, none⟩ : Addr).add (i * A.n + j)) = (f i hi).1[j]?) ∧ (f i hi).1.length = A.n ∧ A.Reads W (f i hi).1 (f i hi).2 :=
        ⟨fun i hi => Classical.choose (each i hi), fun i hi => Classical.choose_spec (each i hi)⟩
      obtain ⟨f, hf⟩ := pick
      have pick2 : ∃ g : (i : Nat) → i < len → List Nat, ∀ i (hi : i < len), A.lies W (f i hi).1 (f i hi).2 (g i hi) :=
        ⟨fun i hi => Classical.choose (hf i hi).2.2, fun i hi => Classical.choose_spec (hf i hi).2.2⟩
      obtain ⟨g, hg⟩ := pick2
      refine ⟨(List.finRange len).map (fun i => (f i.1 i.2).2), b :: ((List.finRange len).map (fun i => g i.1 i.2)).flatten, some ⟨b, off, none⟩, cap, by simp, ⟨by simpa using hl, by simp; unfold maxLen at hm; omega⟩, Or.inr ⟨b, off, (List.finRange len).map (fun i => (f i.1 i.2).1), (List.finRange len).map (fun i => g i.1 i.2), rfl, hbl, rfl, by simp, by simp, fun j h1 h2 h3 => ?_⟩⟩
      have hj : j < len := by simpa using h1
      refine ⟨fun k hk => ?_, ?_⟩
      · have := (hf j hj).1 k hk
        rw [Addr.add_lit] at this
        simpa [Nat.add_assoc] using this
      · simpa using hg j hj
    · obtain rfl : len = 0 := by omega
      exact ⟨[], [], some a, cap, rfl, ⟨hl, by simp⟩, Or.inl ⟨rfl, rfl⟩⟩

theorem open_arg {α : Type} {A : Lay α} {t : TypeId} (O : Opens A t) {H : Type} {enc : TypeId × Value → H} {W : World} {base : Nat} {spare : Nat → Bool} {held : Bool} {a : Option Addr} {len cap : Nat} {d : DataW H} {p : List MemPlace}
    (h : DataW.Trod enc Try.prog W base spare held t (.slice a len cap) d p) : ∃ y, A.Reads W [.slice a len cap] y := by
  obtain ⟨fuel, hf⟩ := h
  exact O enc W base spare held fuel _ _ (by simpa [Value.cells] using hf)
theorem open_arg_st {α : Type} {A : Lay α} {t : TypeId} (O : Opens A t) {H : Type} {enc : TypeId × Value → H} {W : World} {base : Nat} {spare : Nat → Bool} {held : Bool} {cs : Array Value} {d : DataW H} {p : List MemPlace}
    (h : DataW.Trod enc Try.prog W base spare held t (.agg cs) d p) : ∃ y, A.Reads W cs.toList y := by
  obtain ⟨fuel, hf⟩ := h
  exact O enc W base spare held fuel _ _ (by simpa [Value.cells] using hf)

end Go.Proofs.Ytbogjepkdcknfaa

namespace Go.Proofs.Ytbogjepkdcknfaa
open Go.RowKit

/-- What storyOf answers. -/
def ToldAs (w w' : World) (e : Ending) (ws : List DWrite) : Prop := ∃ r, e = .returned (.tuple #[r, .int .i64 (writesF ws)]) ∧ (writesF ws = 0 → r = .pointer (some ⟨w.heap.size + 1, 0, none⟩) ∧ ∃ v rows bls, Told w' (w.heap.size + 1) w.heap.size w'.heap.size ws v rows bls) ∧ (writesF ws ≠ 0 → r = .pointer none) ∧ Below w.heap.size w w'
theorem told_start (w : World) : Told ((w.alloc (.map #[] 0)).alloc (.cells #[.slice none 0 0, .map (some w.heap.size), .int .i64 0, .int .i64 0, .int .i64 0, .int .i64 0, .int .i64 0, .int .i64 0, .int .i64 0, .int .i64 0, .int .i64 0, .int .i64 0] 134)) (w.heap.size + 1) w.heap.size ((w.alloc (.map #[] 0)).alloc (.cells #[.slice none 0 0, .map (some w.heap.size), .int .i64 0, .int .i64 0, .int .i64 0, .int .i64 0, .int .i64 0, .int .i64 0, .int .i64 0, .int .i64 0, .int .i64 0, .int .i64 0] 134)).heap.size [] (.slice none 0 0) [] [] := told_new w

set_option maxRecDepth 100000 in
set_option maxHeartbeats 4000000 in
theorem story_pos (b off cap : Nat) (ws : List DWrite) (w : World) (h : (Lay.sl Lay.tWrite).Reads w [.slice (some ⟨b, off, none⟩) ws.length cap] ws) (hbl : b < w.heap.size) (hn : ws.length ≤ 200) :
    Calls Try.prog 90 #[.slice (some ⟨b, off, none⟩) ws.length cap] w fun e w' => ToldAs w w' e ws := by
  have HW : Hid (writesF ws = wsFrom ws) := by show writesF ws = wsFrom ws; rw [writesF, if_neg (by omega)]
  have H := hide h
  clear h
  have HT0 := hide (told_start w)
  have HB0 := hide (((Below.refl w.heap.size w).alloc (Nat.le_refl _) (.map #[] 0)).alloc (by simp) (.cells #[.slice none 0 0, .map (some w.heap.size), .int .i64 0, .int .i64 0, .int .i64 0, .int .i64 0, .int .i64 0, .int .i64 0, .int .i64 0, .int .i64 0, .int .i64 0, .int .i64 0] 134))
  have hmk := @run_makeMap Try.prog
  go_enter Try.func90, Try.ntmps90
  go_wp2_with fail
  clear hmk
  generalize (w.alloc (.map #[] 0)).alloc (.cells #[.slice none 0 0, .map (some w.heap.size), .int .i64 0, .int .i64 0, .int .i64 0, .int .i64 0, .int .i64 0, .int .i64 0, .int .i64 0, .int .i64 0, .int .i64 0, .int .i64 0] 134) = W1 at *
  go_loopw [17] (fun i wr => ∃ k : Nat, k ≤ ws.length ∧ i = .int .i64 k ∧ (∀ j (hj : j < ws.length), j < k → wF ws[j] = 0) ∧ (∃ v rows bls, Told wr (w.heap.size + 1) w.heap.size wr.heap.size (ws.take k) v rows bls) ∧ Below w.heap.size w wr) (fun i _ => ws.length - (intOf i).toNat)
  case atStart => exact ⟨0, Nat.zero_le _, rfl, fun j _ hj => by omega, ⟨_, _, _, unhide HT0⟩, unhide HB0⟩
  case round =>
    obtain ⟨k, hk, rfl, hz, ⟨v, rows, bls, hT⟩, hB⟩ := hrel
    clear HT0 HB0
    by_cases hlt : k < ws.length
    · obtain ⟨row, hc, hr⟩ := Lay.row_at (unhide H) hlt
      replace hr := hr.later hB
      obtain ⟨a2, d2, rfl, R2⟩ := open_Write hr
      have c0 : wr.cell? ⟨b, off + k * 5, none⟩ = some (.int .i64 (ws[k]).kind) := (hB.cell (p := ⟨b, off + k * 5, none⟩) hbl).trans (hc 0 (by decide))
      have c1 : wr.cell? ⟨b, off + k * 5 + 1, none⟩ = some (.int .i64 (ws[k]).id) := (hB.cell (p := ⟨b, off + k * 5 + 1, none⟩) hbl).trans (hc 1 (by decide))
      have c2 : wr.cell? ⟨b, off + k * 5 + 2, none⟩ = some (.slice a2 (ws[k]).vec.length d2) := (hB.cell (p := ⟨b, off + k * 5 + 2, none⟩) hbl).trans (hc 2 (by decide))
      have c3 : wr.cell? ⟨b, off + k * 5 + 3, none⟩ = some (.int .i64 (ws[k]).session) := (hB.cell (p := ⟨b, off + k * 5 + 3, none⟩) hbl).trans (hc 3 (by decide))
      have c4 : wr.cell? ⟨b, off + k * 5 + 4, none⟩ = some (.int .i64 (ws[k]).seq) := (hB.cell (p := ⟨b, off + k * 5 + 4, none⟩) hbl).trans (hc 4 (by decide))
      have HZ := hide hz
      have HST : Hid (ws.take (k + 1) = ws.take k ++ [ws[k]]) := List.take_succ_eq_append_getElem hlt
      have HAT : Hid (wF ws[k] ≠ 0 → writesF ws = wF ws[k]) := fun hn => (unhide HW).trans (wsFrom_at ws k hlt hz hn)
      have HZ2 : Hid (wF ws[k] = 0 → ∀ j (hj : j < ws.length), j < k + 1 → wF ws[j] = 0) := by
        intro h0 j hj hjk
        by_cases hjk2 : j < k
        · exact unhide HZ j hj hjk2
        · obtain rfl : j = k := by omega
          exact h0
      have HLK : Hid ((ws.take k).length = k) := by show (ws.take k).length = k; rw [List.length_take]; omega
      clear hc hr hz HZ
      generalize hx : ws[k] = x at *
      clear hx
      have hbr : b < wr.heap.size := Nat.lt_of_lt_of_le hbl hB.size
      have nb : Below wr.heap.size wr (wr.alloc (.cells #[.int .i64 x.kind, .int .i64 x.id, .slice a2 x.vec.length d2, .int .i64 x.session, .int .i64 x.seq] 83)) := (Below.refl _ _).alloc (Nat.le_refl _) _
      have bI : Box wr.heap.size #[.int .i64 x.kind, .int .i64 x.id, .slice a2 x.vec.length d2, .int .i64 x.session, .int .i64 x.seq] 83 (wr.alloc (.cells #[.int .i64 x.kind, .int .i64 x.id, .slice a2 x.vec.length d2, .int .i64 x.session, .int .i64 x.seq] 83)) wr.heap.size := newBox (Nat.le_refl _)
      have L := implDeed x.kind x.id (.slice a2 x.vec.length d2) x.session x.seq x.vec _ ((Lay.ints_reads R2).later nb)
      simp only [ToldDeed] at L
      rw [show writeFault x.kind x.id x.vec x.session x.seq = wF x from rfl] at L
      have HL := hide L
      have HT := hide (hT.later nb)
      have HB := hide (hB.trans (nb.mono hB.size))
      have HBI := hide bI
      have HZW : Hid (w.heap.size ≤ wr.heap.size) := hB.size
      clear R2 hT hB nb bI L
      go_wp2_with fail
      clear c0 c1 c2 c3 c4
      refine (unhide HL).mono ?_
      generalize hW0 : wr.alloc (.cells #[.int .i64 x.kind, .int .i64 x.id, .slice a2 x.vec.length d2, .int .i64 x.session, .int .i64 x.seq] 83) = W0 at *
      clear hW0
      rintro e w2 ⟨rfl, hb⟩
      replace HT := hide ((unhide HT).later hb)
      replace HBI := hide ((unhide HBI).keep hb)
      replace HB := hide ((unhide HB).trans (hb.mono (unhide HB).size))
      clear hb HL
      by_cases hf : wF x = 0
      · rw [hf, show deedRes x.kind x.id x.vec x.session x.seq = deedV x.kind x.vec from if_pos hf]
        have hb1 : w2.cell? ⟨wr.heap.size, 1, none⟩ = some (.int .i64 x.id) := (unhide HBI).at 1 _ rfl
        have hb3 : w2.cell? ⟨wr.heap.size, 3, none⟩ = some (.int .i64 x.session) := (unhide HBI).at 3 _ rfl
        have hb4 : w2.cell? ⟨wr.heap.size, 4, none⟩ = some (.int .i64 x.seq) := (unhide HBI).at 4 _ rfl
        have hbl1 : wr.heap.size < w2.heap.size := (unhide HBI).lt
        have HZ3 := hide (unhide HZ2 hf)
        have HL := hide (writeOfC x w2 hf)
        have HF := hide hf
        generalize hdv : deedV x.kind x.vec = dv at *
        clear hf hdv HZ2 HAT HBI
        go_wp2_with fail
        refine (unhide HL).mono ?_
        rintro e w3 ⟨cs, rfl, ⟨bl, hO, hr⟩, hb3⟩
        have hT3 := (unhide HT).later hb3
        replace HB := hide ((unhide HB).trans (hb3.mono (unhide HB).size))
        have HC := hide (tellC (hT3.raise (Nat.le_trans (Nat.le_of_lt hbl1) (Nat.le_refl w2.heap.size))) hO.1 (fun c hc => ⟨(hr c hc).1, hO.2.2 c hc⟩) hO.2.1 hb3.size (unhide HF) (by rw [unhide HLK]; omega))
        rw [← unhide HST] at HC
        clear hO hr hb3 HL HT hT3 HF hb1 hb4 hbl1
        go_wp2_with fail
        refine (unhide HC).mono ?_
        rintro e w4 ⟨rfl, ⟨v4, rows4, bls4, hT4⟩, hb4⟩
        have HT4 := hide hT4
        have HB4 := hide ((unhide HB).trans hb4)
        clear hT4 hb4 HC HB
        go_wp2_with fail
        go_roundw
        case rel => exact ⟨k + 1, by omega, by go_num, unhide HZ3, ⟨_, _, _, unhide HT4⟩, unhide HB4⟩
        case measure => simp [intOf]; omega
      · have hd : (wF x != 0) = true := by simpa using hf
        have HG := hide (unhide HAT hf)
        have HF := hide hf
        generalize hdr : deedRes x.kind x.id x.vec x.session x.seq = dr at *
        clear hf hdr HZ2 HAT HST HT HBI
        go_wp2_with fail
        refine bodyPost_ret (v := .tuple #[.pointer none, .int .i64 (wF x)]) (by simp [results, Try.results90, go_sem]) rfl ?_
        exact ⟨.pointer none, by rw [unhide HG], fun e => absurd ((unhide HG).symm.trans e) (unhide HF), fun _ => rfl, unhide HB⟩
    · obtain rfl : k = ws.length := by omega
      have HG : Hid (writesF ws = 0) := (unhide HW).trans (wsFrom_all ws fun j hj => hz j hj hj)
      rw [List.take_length] at hT
      have HT := hide hT
      have HB := hide hB
      clear hT hB hz H HW
      go_wp2_with fail
      refine bodyPost_ret (v := .tuple #[.pointer (some ⟨w.heap.size + 1, 0, none⟩), .int .i64 0]) (by simp [results, Try.results90, go_sem]) rfl ?_
      exact ⟨.pointer (some ⟨w.heap.size + 1, 0, none⟩), by rw [unhide HG], fun _ => ⟨rfl, _, _, _, unhide HT⟩, fun e => absurd (unhide HG) e, unhide HB⟩

set_option maxRecDepth 10000 in
set_option maxHeartbeats 1000000 in
/-- storyOf of the program. -/
theorem storyC (v : Value) (ws : List DWrite) (w : World) (h : (Lay.sl Lay.tWrite).Reads w [v] ws) :
    Calls Try.prog 90 #[v] w fun e w' => ToldAs w w' e ws := by
  obtain ⟨ao, cap, rfl⟩ := open_sl h
  by_cases hn : ws.length ≤ 200
  · by_cases hp : 0 < ws.length
    · obtain ⟨b, off, rfl, hbl⟩ := Lay.sl_addr h hp
      exact story_pos b off cap ws w h hbl hn
    · obtain rfl : ws = [] := List.eq_nil_of_length_eq_zero (by omega)
      clear h hn hp
      have HT0 := hide (told_start w)
      have HB0 := hide (((Below.refl w.heap.size w).alloc (Nat.le_refl _) (.map #[] 0)).alloc (by simp) (.cells #[.slice none 0 0, .map (some w.heap.size), .int .i64 0, .int .i64 0, .int .i64 0, .int .i64 0, .int .i64 0, .int .i64 0, .int .i64 0, .int .i64 0, .int .i64 0, .int .i64 0] 134))
      have hmk := @run_makeMap Try.prog
      go_enter Try.func90, Try.ntmps90
      go_wp2_with fail
      clear hmk
      refine wp_loop_rounds 1 ?_
      rw [rounds_succ]
      go_wp2_with fail
      refine bodyPost_ret (v := .tuple #[.pointer (some ⟨w.heap.size + 1, 0, none⟩), .int .i64 0]) (by simp [results, Try.results90, go_sem]) rfl ?_
      exact ⟨.pointer (some ⟨w.heap.size + 1, 0, none⟩), rfl, fun _ => ⟨rfl, _, _, _, unhide HT0⟩, fun e => absurd rfl e, unhide HB0⟩
  · have e : writesF ws = 2 := by rw [writesF, if_pos (by omega)]
    have HG := hide e
    have hd : decide ((200 : Int) < (ws.length : Int)) = true := by simp; omega
    clear h e
    go_enter Try.func90, Try.ntmps90
    go_wp2_with fail
    refine bodyPost_ret (v := .tuple #[.pointer none, .int .i64 2]) (by simp [results, Try.results90, go_sem]) rfl ?_
    exact ⟨.pointer none, by rw [unhide HG], fun e => absurd ((unhide HG).symm.trans e) (by decide), fun _ => rfl, Below.refl _ _⟩

end Go.Proofs.Ytbogjepkdcknfaa

namespace Go.Proofs.Ytbogjepkdcknfaa
open Go.RowKit

def acells (f : Int → Int) : Array Value := #[.int .i64 (f 0), .int .i64 (f 1), .int .i64 (f 2), .int .i64 (f 3), .int .i64 (f 4), .int .i64 (f 5), .int .i64 (f 6), .int .i64 (f 7), .int .i64 (f 8), .int .i64 (f 9)]
theorem acells_at (f : Int → Int) (i : Nat) (h : i < 10) : (acells f)[i]? = some (.int .i64 (f i)) := by
  match i, h with
  | 0, _ => rfl
  | 1, _ => rfl
  | 2, _ => rfl
  | 3, _ => rfl
  | 4, _ => rfl
  | 5, _ => rfl
  | 6, _ => rfl
  | 7, _ => rfl
  | 8, _ => rfl
  | 9, _ => rfl
theorem acells_set (f : Int → Int) (i : Nat) (h : i < 10) (z : Int) : (acells f).setIfInBounds i (.int .i64 z) = acells (fun j => if j = i then z else f j) := by
  match i, h with
  | 0, _ => rfl
  | 1, _ => rfl
  | 2, _ => rfl
  | 3, _ => rfl
  | 4, _ => rfl
  | 5, _ => rfl
  | 6, _ => rfl
  | 7, _ => rfl
  | 8, _ => rfl
  | 9, _ => rfl

set_option maxRecDepth 100000 in
set_option maxHeartbeats 4000000 in
theorem onceRight_pos (b off cap : Nat) (ws : List DWrite) (w : World) (h : (Lay.sl Lay.tWrite).Reads w [.slice (some ⟨b, off, none⟩) ws.length cap] ws) (hbl : b < w.heap.size) (hf : writesF ws = 0) :
    Calls Try.prog 71 #[.slice (some ⟨b, off, none⟩) ws.length cap] w fun e w' => e = .returned (.bool (onceB [] ws)) ∧ Below w.heap.size w w' := by
  have HL := hide (storyC _ ws w h)
  have H := hide h
  obtain ⟨hlen, hall⟩ := writesF_zero hf
  have HA := hide hall
  have HF := hide hf
  clear h hall hf
  go_enter Try.func71, Try.ntmps71
  go_wp2_with fail
  refine (unhide HL).mono ?_
  rintro e w2 ⟨r, rfl, g0, -, hb⟩
  obtain ⟨rfl, -⟩ := g0 (unhide HF)
  rw [unhide HF]
  have HB0 := hide (hb.alloc hb.size (.cells #[.int .i64 0, .int .i64 0, .int .i64 0, .int .i64 0, .int .i64 0, .int .i64 0, .int .i64 0, .int .i64 0, .int .i64 0, .int .i64 0] 111))
  have HX0 : Hid (Box 0 (acells (lastI [])) 111 (w2.alloc (.cells #[.int .i64 0, .int .i64 0, .int .i64 0, .int .i64 0, .int .i64 0, .int .i64 0, .int .i64 0, .int .i64 0, .int .i64 0, .int .i64 0] 111)) w2.heap.size) := newBox (Nat.zero_le _)
  have hz2 := hb.size
  clear hb HL HF g0
  go_wp2_with fail
  generalize w2.alloc (.cells #[.int .i64 0, .int .i64 0, .int .i64 0, .int .i64 0, .int .i64 0, .int .i64 0, .int .i64 0, .int .i64 0, .int .i64 0, .int .i64 0] 111) = W1 at *
  generalize w2.heap.size = L at *
  go_loopw [17] (fun i wr => ∃ k : Nat, k ≤ ws.length ∧ i = .int .i64 k ∧ (∀ j (hj : j < ws.length), j < k → lastI ([] ++ ws.take j) (ws[j]).session < (ws[j]).seq) ∧ Box 0 (acells (lastI (ws.take k))) 111 wr L ∧ Below w.heap.size w wr) (fun i _ => ws.length - (intOf i).toNat)
  case atStart => exact ⟨0, Nat.zero_le _, rfl, fun j _ hj => by omega, unhide HX0, unhide HB0⟩
  case round =>
    obtain ⟨k, hk, rfl, hz, hX, hB⟩ := hrel
    clear HX0 HB0
    by_cases hlt : k < ws.length
    · obtain ⟨row, hc, hr⟩ := Lay.row_at (unhide H) hlt
      replace hr := hr.later hB
      obtain ⟨a2, d2, rfl, R2⟩ := open_Write hr
      have c0 : wr.cell? ⟨b, off + k * 5, none⟩ = some (.int .i64 (ws[k]).kind) := (hB.cell (p := ⟨b, off + k * 5, none⟩) hbl).trans (hc 0 (by decide))
      have c1 : wr.cell? ⟨b, off + k * 5 + 1, none⟩ = some (.int .i64 (ws[k]).id) := (hB.cell (p := ⟨b, off + k * 5 + 1, none⟩) hbl).trans (hc 1 (by decide))
      have c2 : wr.cell? ⟨b, off + k * 5 + 2, none⟩ = some (.slice a2 (ws[k]).vec.length d2) := (hB.cell (p := ⟨b, off + k * 5 + 2, none⟩) hbl).trans (hc 2 (by decide))
      have c3 : wr.cell? ⟨b, off + k * 5 + 3, none⟩ = some (.int .i64 (ws[k]).session) := (hB.cell (p := ⟨b, off + k * 5 + 3, none⟩) hbl).trans (hc 3 (by decide))
      have c4 : wr.cell? ⟨b, off + k * 5 + 4, none⟩ = some (.int .i64 (ws[k]).seq) := (hB.cell (p := ⟨b, off + k * 5 + 4, none⟩) hbl).trans (hc 4 (by decide))
      have hsq := wF_seq (unhide HA ws[k] (List.getElem_mem hlt))
      have HAT : Hid ((ws[k]).seq ≤ lastI (ws.take k) (ws[k]).session → onceB [] ws = false) := fun he => onceB_at ws [] k hlt (by simpa using he)
      have HZ2 : Hid (lastI (ws.take k) (ws[k]).session < (ws[k]).seq → ∀ j (hj : j < ws.length), j < k + 1 → lastI ([] ++ ws.take j) (ws[j]).session < (ws[j]).seq) := by
        intro h0 j hj hjk
        by_cases hjk2 : j < k
        · exact hz j hj hjk2
        · obtain rfl : j = k := by omega
          simpa using h0
      have HLT : Hid (lastI (ws.take k) (ws[k]).session < (ws[k]).seq → ∀ j : Int, (if j = ((ws[k]).session.toNat : Int) then (ws[k]).seq else lastI (ws.take k) j) = lastI (ws.take (k + 1)) j) := by
        intro h0 j
        have h9 := wF_seq (unhide HA ws[k] (List.getElem_mem hlt))
        rw [lastI_take ws k hlt, show ((ws[k]).session.toNat : Int) = (ws[k]).session by omega]
        by_cases e : j = (ws[k]).session
        · rw [if_pos e, if_pos e.symm, e]; omega
        · rw [if_neg e, if_neg (fun h => e h.symm)]
      clear hc hr hz R2
      generalize hx : ws[k] = x at *
      clear hx
      have hbr : b < wr.heap.size := Nat.lt_of_lt_of_le hbl hB.size
      have nb : Below wr.heap.size wr (wr.alloc (.cells #[.int .i64 x.kind, .int .i64 x.id, .slice a2 x.vec.length d2, .int .i64 x.session, .int .i64 x.seq] 83)) := (Below.refl _ _).alloc (Nat.le_refl _) _
      have bI : Box 0 #[.int .i64 x.kind, .int .i64 x.id, .slice a2 x.vec.length d2, .int .i64 x.session, .int .i64 x.seq] 83 (wr.alloc (.cells #[.int .i64 x.kind, .int .i64 x.id, .slice a2 x.vec.length d2, .int .i64 x.session, .int .i64 x.seq] 83)) wr.heap.size := newBox (Nat.zero_le _)
      have hLq := hX.lt
      have HX1 := hide (hX.keep nb)
      have HB1 := hide (hB.trans (nb.mono hB.size))
      have HBI := hide bI
      have hLw : w.heap.size ≤ L := hz2
      clear nb bI hX hB
      go_wp2_with fail
      clear c0 c1 c2 c3 c4
      generalize wr.alloc (.cells #[.int .i64 x.kind, .int .i64 x.id, .slice a2 x.vec.length d2, .int .i64 x.session, .int .i64 x.seq] 83) = W0 at *
      obtain ⟨b1, b9, q1, q9⟩ := hsq
      have hs9 : x.session.toNat < 10 := by omega
      have hsi : (x.session.toNat : Int) = x.session := by omega
      have i1 : (0 : Int) ≤ x.session := by omega
      have i2 : x.session < 10 := by omega
      have hXD := unhide HX1
      have hID := unhide HBI
      refine wp_region_noPanic ?_
      refine wp_region_held_drew (S := fun w' => w' = W0.drew) (by kernel_rfl) rfl (fun hHeld => ?_)
      refine wpAnyH_take (i := 0) (oi := { dst := some 21, op := Go.Op.fieldAddr 83 (Go.Operand.tmp 7) 4, type := 0, pos := "l05_session.go:155", after := #[], guard := none }) (v := ?vo0) rfl (by kernel_rfl) (by kernel_rfl) (by kernel_rfl) (fun _ _ _ h => h) (Or.inl ⟨by rfl, ?ho0⟩) hHeld ?ro0
      case ho0 =>
        intro wS hSw
        (try dsimp only at hSw)
        go_simp
        try with_reducible rfl
      case ro0 =>
      simp only [Act.put, List.setIfInBounds_toArray, List.set_cons_zero, List.set_cons_succ]
      refine wpAnyH_take (i := 1) (oi := { dst := some 22, op := Go.Op.load 2 (Go.Operand.tmp 21), type := 2, pos := "l05_session.go:155", after := #[{ on := 0, ground := Go.Ground.data }], guard := none }) (v := ?vo1) rfl (by kernel_rfl) (by kernel_rfl) (by kernel_rfl) (fun _ _ _ h => h) (Or.inl ⟨by rfl, ?ho1⟩) hHeld ?ro1
      case ho1 =>
        intro wS hSw
        have y3 : wS.cell? ⟨wr.heap.size, 3, none⟩ = some (.int .i64 x.session) := by rw [hSw]; exact hID.at 3 _ rfl
        have y4 : wS.cell? ⟨wr.heap.size, 4, none⟩ = some (.int .i64 x.seq) := by rw [hSw]; exact hID.at 4 _ rfl
        have yl : wS.cell? ⟨L, x.session.toNat, none⟩ = some (.int .i64 (lastI (ws.take k) x.session)) := by
          have := hXD.at _ _ (acells_at (lastI (ws.take k)) x.session.toNat hs9)
          rw [hsi] at this
          rw [hSw]; exact this
        clear hSw
        (try dsimp only at hSw)
        go_simp
        try with_reducible rfl
      case ro1 =>
      simp only [Act.put, List.setIfInBounds_toArray, List.set_cons_zero, List.set_cons_succ]
      refine wpAnyH_take (i := 2) (oi := { dst := some 23, op := Go.Op.fieldAddr 83 (Go.Operand.tmp 7) 3, type := 0, pos := "l05_session.go:155", after := #[], guard := none }) (v := ?vo2) rfl (by kernel_rfl) (by kernel_rfl) (by kernel_rfl) (fun _ _ _ h => h) (Or.inl ⟨by rfl, ?ho2⟩) hHeld ?ro2
      case ho2 =>
        intro wS hSw
        (try dsimp only at hSw)
        go_simp
        try with_reducible rfl
      case ro2 =>
      simp only [Act.put, List.setIfInBounds_toArray, List.set_cons_zero, List.set_cons_succ]
      refine wpAnyH_take (i := 3) (oi := { dst := some 24, op := Go.Op.load 2 (Go.Operand.tmp 23), type := 2, pos := "l05_session.go:155", after := #[{ on := 2, ground := Go.Ground.data }], guard := none }) (v := ?vo3) rfl (by kernel_rfl) (by kernel_rfl) (by kernel_rfl) (fun _ _ _ h => h) (Or.inl ⟨by rfl, ?ho3⟩) hHeld ?ro3
      case ho3 =>
        intro wS hSw
        have y3 : wS.cell? ⟨wr.heap.size, 3, none⟩ = some (.int .i64 x.session) := by rw [hSw]; exact hID.at 3 _ rfl
        have y4 : wS.cell? ⟨wr.heap.size, 4, none⟩ = some (.int .i64 x.seq) := by rw [hSw]; exact hID.at 4 _ rfl
        have yl : wS.cell? ⟨L, x.session.toNat, none⟩ = some (.int .i64 (lastI (ws.take k) x.session)) := by
          have := hXD.at _ _ (acells_at (lastI (ws.take k)) x.session.toNat hs9)
          rw [hsi] at this
          rw [hSw]; exact this
        clear hSw
        (try dsimp only at hSw)
        go_simp
        try with_reducible rfl
      case ro3 =>
      simp only [Act.put, List.setIfInBounds_toArray, List.set_cons_zero, List.set_cons_succ]
      refine wpAnyH_take (i := 4) (oi := { dst := some 25, op := Go.Op.indexAddr 111 (Go.Operand.tmp 5) (Go.Operand.tmp 24), type := 0, pos := "l05_session.go:155", after := #[{ on := 3, ground := Go.Ground.data }], guard := none }) (v := ?vo4) rfl (by kernel_rfl) (by kernel_rfl) (by kernel_rfl) (fun _ _ _ h => h) (Or.inl ⟨by rfl, ?ho4⟩) hHeld ?ro4
      case ho4 =>
        intro wS hSw
        (try dsimp only at hSw)
        go_simp
        try with_reducible rfl
      case ro4 =>
      simp only [Act.put, List.setIfInBounds_toArray, List.set_cons_zero, List.set_cons_succ]
      refine wpAnyH_take (i := 5) (oi := { dst := some 26, op := Go.Op.load 2 (Go.Operand.tmp 25), type := 2, pos := "l05_session.go:155", after := #[{ on := 4, ground := Go.Ground.data }], guard := none }) (v := ?vo5) rfl (by kernel_rfl) (by kernel_rfl) (by kernel_rfl) (fun _ _ _ h => h) (Or.inl ⟨by rfl, ?ho5⟩) hHeld ?ro5
      case ho5 =>
        intro wS hSw
        have y3 : wS.cell? ⟨wr.heap.size, 3, none⟩ = some (.int .i64 x.session) := by rw [hSw]; exact hID.at 3 _ rfl
        have y4 : wS.cell? ⟨wr.heap.size, 4, none⟩ = some (.int .i64 x.seq) := by rw [hSw]; exact hID.at 4 _ rfl
        have yl : wS.cell? ⟨L, x.session.toNat, none⟩ = some (.int .i64 (lastI (ws.take k) x.session)) := by
          have := hXD.at _ _ (acells_at (lastI (ws.take k)) x.session.toNat hs9)
          rw [hsi] at this
          rw [hSw]; exact this
        clear hSw
        (try dsimp only at hSw)
        go_simp
        try with_reducible rfl
      case ro5 =>
      simp only [Act.put, List.setIfInBounds_toArray, List.set_cons_zero, List.set_cons_succ]
      refine wpAnyH_take (i := 6) (oi := { dst := some 27, op := Go.Op.binOp Go.BinOp.leq 2 (Go.Operand.tmp 22) (Go.Operand.tmp 26) 2, type := 4, pos := "l05_session.go:155", after := #[{ on := 1, ground := Go.Ground.data }, { on := 5, ground := Go.Ground.data }], guard := none }) (v := ?vo6) rfl (by kernel_rfl) (by kernel_rfl) (by kernel_rfl) (fun _ _ _ h => h) (Or.inl ⟨by rfl, ?ho6⟩) hHeld ?ro6
      case ho6 =>
        intro wS hSw
        (try dsimp only at hSw)
        go_simp
        try with_reducible rfl
      case ro6 =>
      simp only [Act.put, List.setIfInBounds_toArray, List.set_cons_zero, List.set_cons_succ]
      refine wpAnyH_done (by kernel_rfl) ?_ _
      refine NoPanic.normal ?_
      clear hHeld
      have HBD := hide (unhide HB1).drew
      have hX2 : Box 0 (acells (lastI (ws.take k))) 111 W0.drew L := unhide HX1
      have hI2 : Box 0 #[.int .i64 x.kind, .int .i64 x.id, .slice a2 x.vec.length d2, .int .i64 x.session, .int .i64 x.seq] 83 W0.drew wr.heap.size := unhide HBI
      generalize W0.drew = W2 at *
      clear HX1 HBI HB1 hXD hID
      by_cases hq : x.seq ≤ lastI (ws.take k) x.session
      · have hd : decide (x.seq ≤ lastI (ws.take k) x.session) = true := by simpa using hq
        have HG := hide (unhide HAT hq)
        clear hq HAT HZ2 HLT hsi
        rw [hd]
        go_wp2_with fail
        go_ret
        exact ⟨by rw [unhide HG]; first | done | rfl, unhide HBD⟩
      · have hd : decide (x.seq ≤ lastI (ws.take k) x.session) = false := by simpa using hq
        have HZ := hide (unhide HZ2 (by omega))
        have HX3 : Hid (Box 0 (acells (lastI (ws.take (k + 1)))) 111 (W2.setCell ⟨L, x.session.toNat, none⟩ (.int .i64 x.seq)) L) := by
          have e := hX2.set x.session.toNat (.int .i64 x.seq)
          rw [acells_set _ _ hs9, funext (unhide HLT (by omega))] at e
          exact e
        have HB3 : Hid (Below w.heap.size w (W2.setCell ⟨L, x.session.toNat, none⟩ (.int .i64 x.seq))) := (unhide HBD).setCell (by simp; omega) _
        have y3 : W2.cell? ⟨wr.heap.size, 3, none⟩ = some (.int .i64 x.session) := hI2.at 3 _ rfl
        have y4 : W2.cell? ⟨wr.heap.size, 4, none⟩ = some (.int .i64 x.seq) := hI2.at 4 _ rfl
        have yl : W2.cell? ⟨L, x.session.toNat, none⟩ = some (.int .i64 (lastI (ws.take k) x.session)) := by
          have := hX2.at _ _ (acells_at (lastI (ws.take k)) x.session.toNat hs9)
          rwa [hsi] at this
        have fl := hX2.soft x.session.toNat
        have ll := hX2.lt
        clear hq HAT HZ2 HLT hsi hX2 hI2 HBD
        rw [hd]
        go_wp2_with fail
        go_roundw
        case rel => exact ⟨k + 1, by omega, by go_num, unhide HZ, unhide HX3, unhide HB3⟩
        case measure => simp [intOf]; omega
    · obtain rfl : k = ws.length := by omega
      have HG : Hid (onceB [] ws = true) := onceB_all ws [] fun j hj => hz j hj hj
      have HB := hide hB
      clear H hz hB hX
      go_wp2_with fail
      go_ret
      exact ⟨by rw [unhide HG]; first | done | rfl, unhide HB⟩

set_option maxRecDepth 10000 in
set_option maxHeartbeats 1000000 in
/-- OnceRight of the program. -/
theorem implOnce (v : Value) (ws : List DWrite) (w : World) (h : (Lay.sl Lay.tWrite).Reads w [v] ws) :
    Calls Try.prog 71 #[v] w fun e w' => e = .returned (.bool (onceR ws)) ∧ Below w.heap.size w w' := by
  obtain ⟨ao, cap, rfl⟩ := open_sl h
  by_cases hf : writesF ws = 0
  · have e1 : onceR ws = onceB [] ws := by simp [onceR, hf]
    rw [e1]
    by_cases hp : 0 < ws.length
    · obtain ⟨b, off, rfl, hbl⟩ := Lay.sl_addr h hp
      exact onceRight_pos b off cap ws w h hbl hf
    · obtain rfl : ws = [] := List.eq_nil_of_length_eq_zero (by omega)
      have HL := hide (storyC _ [] w h)
      clear h hp e1 hf
      go_enter Try.func71, Try.ntmps71
      go_wp2_with fail
      refine (unhide HL).mono ?_
      rintro e w2 ⟨r, rfl, g0, -, hb⟩
      obtain ⟨rfl, -⟩ := g0 rfl
      rw [show writesF [] = 0 from rfl]
      have HB0 := hide (hb.alloc hb.size (.cells #[.int .i64 0, .int .i64 0, .int .i64 0, .int .i64 0, .int .i64 0, .int .i64 0, .int .i64 0, .int .i64 0, .int .i64 0, .int .i64 0] 111))
      clear hb HL g0
      go_wp2_with fail
      refine wp_loop_rounds 1 ?_
      rw [rounds_succ]
      go_wp2_with fail
      go_ret
      exact ⟨rfl, unhide HB0⟩
  · have HL := hide (storyC _ ws w h)
    have HG : Hid (onceR ws = false) := by show onceR ws = _; simp [onceR, hf]
    have hd : (writesF ws != 0) = true := by simpa using hf
    clear h
    go_enter Try.func71, Try.ntmps71
    go_wp2_with fail
    refine (unhide HL).mono ?_
    rintro e w2 ⟨r, rfl, -, -, hb⟩
    have HB0 := hide hb
    clear hb HL hf
    go_wp2_with fail
    go_ret
    exact ⟨by rw [unhide HG]; first | done | rfl, unhide HB0⟩

end Go.Proofs.Ytbogjepkdcknfaa

namespace Go.Proofs.Ytbogjepkdcknfaa
open Go.RowKit

/-- WriteFault of the program. -/
theorem implWriteFault (k i : Int) (v : Value) (s q : Int) (zs : List Int) (w : World) (h : IsInts w v zs) :
    Calls Try.prog 70 #[.agg #[.int .i64 k, .int .i64 i, v, .int .i64 s, .int .i64 q]] w fun e w' => e = .returned (.int .i64 (writeFault k i zs s q)) ∧ Below w.heap.size w w' := by
  have h' := h
  obtain ⟨ao, cap, rfl, -⟩ := h'
  have B0 : Below w.heap.size w (w.alloc (.cells #[.int .i64 k, .int .i64 i, .slice ao zs.length cap, .int .i64 s, .int .i64 q] 83)) := (Below.refl _ _).alloc (Nat.le_refl _) _
  have L := hide (implDeed k i (.slice ao zs.length cap) s q zs _ (h.later B0))
  have HB := hide B0
  clear B0 h
  go_enter Try.func70, Try.ntmps70
  go_wp2_with fail
  refine (unhide L).mono ?_
  rintro e w1 ⟨rfl, hb1⟩
  have HB1 := hide ((unhide HB).trans (hb1.mono (unhide HB).size))
  clear hb1 HB L
  go_wp2_with fail
  go_ret
  exact ⟨rfl, unhide HB1⟩

end Go.Proofs.Ytbogjepkdcknfaa

namespace Go.Proofs.Ytbogjepkdcknfaa
open Go.RowKit

theorem isNodeIdC (n : Int) (w : World) :
    Calls Try.prog 37 #[.int .i64 n] w fun e w' => e = .returned (.bool (decide (1 ≤ n) && decide (n ≤ 5))) ∧ w' = w := by
  by_cases h1 : 1 ≤ n
  · have d1 : decide (1 ≤ n) = true := by simpa using h1
    rw [d1]
    cases d2 : decide (n ≤ 5) <;>
    · go_enter Try.func37, Try.ntmps37
      go_wp2_with fail
      go_ret
      exact ⟨rfl, rfl⟩
  · have d1 : decide (1 ≤ n) = false := by simpa using h1
    rw [d1]
    go_enter Try.func37, Try.ntmps37
    go_wp2_with fail
    go_ret
    exact ⟨rfl, rfl⟩
theorem isUpToC (n m : Int) (w : World) :
    Calls Try.prog 38 #[.int .i64 n, .int .i64 m] w fun e w' => e = .returned (.bool (decide (0 ≤ n) && decide (n ≤ m))) ∧ w' = w := by
  by_cases h1 : 0 ≤ n
  · have d1 : decide (0 ≤ n) = true := by simpa using h1
    rw [d1]
    cases d2 : decide (n ≤ m) <;>
    · go_enter Try.func38, Try.ntmps38
      go_wp2_with fail
      go_ret
      exact ⟨rfl, rfl⟩
  · have d1 : decide (0 ≤ n) = false := by simpa using h1
    rw [d1]
    go_enter Try.func38, Try.ntmps38
    go_wp2_with fail
    go_ret
    exact ⟨rfl, rfl⟩

set_option maxRecDepth 100000 in
set_option maxHeartbeats 2000000 in
theorem takenC (v : Value) (ws : List DWrite) (w : World) (h : (Lay.sl Lay.tWrite).Reads w [v] ws) :
    Calls Try.prog 39 #[v] w fun e w' => e = .returned (.int .i64 (takenF ws)) ∧ Below w.heap.size w w' := by
  obtain ⟨ao, cap, rfl⟩ := open_sl h
  by_cases hn0 : 40 < ws.length
  · have HF : Hid (takenF ws = 2) := by show takenF ws = 2; rw [takenF, if_pos hn0]
    have hbig := h.big
    have hd : decide ((40 : Int) < (ws.length : Int)) = true := by simp; omega
    clear h
    go_enter Try.func39, Try.ntmps39
    go_wp2_with fail
    go_ret
    exact ⟨by rw [unhide HF]; rfl, Below.refl _ _⟩
  · have hn : ws.length ≤ 40 := by omega
    have HW : Hid (takenF ws = if wsFrom ws ≠ 0 then wsFrom ws else if onceB [] ws = false then 6 else 0) := by show takenF ws = _; rw [takenF, if_neg hn0]
    have H := hide h
    clear h hn0
    go_enter Try.func39, Try.ntmps39
    go_wp2_with fail
    go_loopw [11] (fun i wr => ∃ k : Nat, k ≤ ws.length ∧ i = .int .i64 k ∧ (∀ j (hj : j < ws.length), j < k → wF ws[j] = 0) ∧ Below w.heap.size w wr) (fun i _ => ws.length - (intOf i).toNat)
    case atStart => exact ⟨0, Nat.zero_le _, rfl, fun j _ hj => by omega, Below.refl _ _⟩
    case round =>
      obtain ⟨k, hk, rfl, hz, hB⟩ := hrel
      by_cases hlt : k < ws.length
      · obtain ⟨b, off, rfl, hbl⟩ := Lay.sl_addr (unhide H) (by omega)
        obtain ⟨row, hc, hr⟩ := Lay.row_at (unhide H) hlt
        replace hr := hr.later hB
        obtain ⟨a2, d2, rfl, R2⟩ := open_Write hr
        have c0 : wr.cell? ⟨b, off + k * 5, none⟩ = some (.int .i64 (ws[k]).kind) := (hB.cell (p := ⟨b, off + k * 5, none⟩) hbl).trans (hc 0 (by decide))
        have c1 : wr.cell? ⟨b, off + k * 5 + 1, none⟩ = some (.int .i64 (ws[k]).id) := (hB.cell (p := ⟨b, off + k * 5 + 1, none⟩) hbl).trans (hc 1 (by decide))
        have c2 : wr.cell? ⟨b, off + k * 5 + 2, none⟩ = some (.slice a2 (ws[k]).vec.length d2) := (hB.cell (p := ⟨b, off + k * 5 + 2, none⟩) hbl).trans (hc 2 (by decide))
        have c3 : wr.cell? ⟨b, off + k * 5 + 3, none⟩ = some (.int .i64 (ws[k]).session) := (hB.cell (p := ⟨b, off + k * 5 + 3, none⟩) hbl).trans (hc 3 (by decide))
        have c4 : wr.cell? ⟨b, off + k * 5 + 4, none⟩ = some (.int .i64 (ws[k]).seq) := (hB.cell (p := ⟨b, off + k * 5 + 4, none⟩) hbl).trans (hc 4 (by decide))
        have HZ := hide hz
        have HAT : Hid (wF ws[k] ≠ 0 → takenF ws = wF ws[k]) := fun hn => by
          have e := wsFrom_at ws k hlt hz hn
          rw [unhide HW, e, if_pos hn]
        have HZ2 : Hid (wF ws[k] = 0 → ∀ j (hj : j < ws.length), j < k + 1 → wF ws[j] = 0) := by
          intro h0 j hj hjk
          by_cases hjk2 : j < k
          · exact unhide HZ j hj hjk2
          · obtain rfl : j = k := by omega
            exact h0
        clear hc hr hz HZ
        generalize hx : ws[k] = x at *
        clear hx
        have hbr : b < wr.heap.size := Nat.lt_of_lt_of_le hbl hB.size
        have nb : Below wr.heap.size wr (wr.alloc (.cells #[.int .i64 x.kind, .int .i64 x.id, .slice a2 x.vec.length d2, .int .i64 x.session, .int .i64 x.seq] 83)) := (Below.refl _ _).alloc (Nat.le_refl _) _
        have L := implWriteFault x.kind x.id (.slice a2 x.vec.length d2) x.session x.seq x.vec _ ((Lay.ints_reads R2).later nb)
        rw [show writeFault x.kind x.id x.vec x.session x.seq = wF x from rfl] at L
        have HL := hide L
        have HB := hide (hB.trans (nb.mono hB.size))
        clear R2 hB nb L
        go_wp2_with fail
        clear c0 c1 c2 c3 c4
        refine (unhide HL).mono ?_
        generalize hW0 : wr.alloc (.cells #[.int .i64 x.kind, .int .i64 x.id, .slice a2 x.vec.length d2, .int .i64 x.session, .int .i64 x.seq] 83) = W0 at *
        clear hW0
        rintro e w2 ⟨rfl, hb⟩
        replace HB := hide ((unhide HB).trans (hb.mono (unhide HB).size))
        clear hb HL
        by_cases hf : wF x = 0
        · have HZ3 := hide (unhide HZ2 hf)
          rw [hf]
          clear hf HZ2 HAT
          go_wp2_with fail
          go_roundw
          case rel => exact ⟨k + 1, by omega, by go_num, unhide HZ3, unhide HB⟩
          case measure => simp [intOf]; omega
        · have hd : (wF x != 0) = true := by simpa using hf
          have HE := hide (unhide HAT hf)
          clear HAT HZ2 hf
          generalize wF x = c at *
          go_wp2_with fail
          go_ret
          exact ⟨by rw [unhide HE]; rfl, unhide HB⟩
      · obtain rfl : k = ws.length := by omega
        have e0 := wsFrom_all ws (fun j hj => hz j hj hj)
        have HL := hide (implOnce _ ws wr ((unhide H).later hB))
        have hf0 : writesF ws = 0 := by rw [writesF, if_neg (by omega), e0]
        have hor : onceR ws = onceB [] ws := by rw [onceR, hf0]; simp
        rw [hor] at HL
        have HB := hide hB
        have HT : Hid (takenF ws = if onceB [] ws = false then 6 else 0) := by show takenF ws = _; rw [unhide HW, e0, if_neg (by simp)]
        clear hB hz e0 hf0 hor H HW
        cases ho : onceB [] ws
        · rw [ho] at HL HT
          clear ho
          go_wp2_with fail
          refine (unhide HL).mono ?_
          rintro e w2 ⟨rfl, hb⟩
          have HB2 := hide ((unhide HB).trans (hb.mono (unhide HB).size))
          clear hb HL
          go_wp2_with fail
          go_ret
          exact ⟨by rw [unhide HT]; rfl, unhide HB2⟩
        · rw [ho] at HL HT
          clear ho
          go_wp2_with fail
          refine (unhide HL).mono ?_
          rintro e w2 ⟨rfl, hb⟩
          have HB2 := hide ((unhide HB).trans (hb.mono (unhide HB).size))
          clear hb HL
          go_wp2_with fail
          go_ret
          exact ⟨by rw [unhide HT]; rfl, unhide HB2⟩

set_option maxRecDepth 10000 in
set_option maxHeartbeats 1000000 in
theorem isDownRightC (cs : List Value) (x : DNode) (w : World) (h : Lay.tNode.Reads w cs x) :
    Calls Try.prog 40 #[.agg cs.toArray] w fun e w' => e = .returned (.bool (downB x)) ∧ Below w.heap.size w w' := by
  obtain ⟨a4, d4, rfl, R4⟩ := open_Node h
  have hbig := R4.big
  clear h R4
  have HB := hide ((Below.refl w.heap.size w).alloc (Nat.le_refl _) (.cells #[.int .i64 x.id, .bool x.up, .int .i64 x.epoch, .int .i64 x.lease, .slice a4 x.writes.length d4, .int .i64 x.sure, .int .i64 x.clean] 29))
  cases d1 : (x.sure == (x.writes.length : Int))
  · have HF : Hid (downB x = false) := by show downB x = false; rw [downB, d1]; rfl
    go_enter Try.func40, Try.ntmps40
    go_wp2_with fail
    go_ret
    exact ⟨by rw [unhide HF]; rfl, unhide HB⟩
  · cases d2 : (x.clean == 0)
    · have HF : Hid (downB x = false) := by show downB x = false; rw [downB, d1, d2]; rfl
      go_enter Try.func40, Try.ntmps40
      go_wp2_with fail
      go_ret
      exact ⟨by rw [unhide HF]; rfl, unhide HB⟩
    · cases d3 : (x.lease == 0)
      · have HF : Hid (downB x = false) := by show downB x = false; rw [downB, d1, d2, d3]; rfl
        go_enter Try.func40, Try.ntmps40
        go_wp2_with fail
        go_ret
        exact ⟨by rw [unhide HF]; rfl, unhide HB⟩
      · have HF : Hid (downB x = true) := by show downB x = true; rw [downB, d1, d2, d3]; rfl
        go_enter Try.func40, Try.ntmps40
        go_wp2_with fail
        go_ret
        exact ⟨by rw [unhide HF]; rfl, unhide HB⟩

set_option maxRecDepth 100000 in
set_option maxHeartbeats 2000000 in
/-- NodeFault of the program. -/
theorem implNodeFault (cs : List Value) (x : DNode) (w : World) (h : Lay.tNode.Reads w cs x) :
    Calls Try.prog 13 #[.agg cs.toArray] w fun e w' => e = .returned (.int .i64 (nodeFault x)) ∧ Below w.heap.size w w' := by
  have hN := h
  obtain ⟨a4, d4, rfl, R4⟩ := open_Node h
  have hbig := R4.big
  have nb : Below w.heap.size w (w.alloc (.cells #[.int .i64 x.id, .bool x.up, .int .i64 x.epoch, .int .i64 x.lease, .slice a4 x.writes.length d4, .int .i64 x.sure, .int .i64 x.clean] 29)) := (Below.refl _ _).alloc (Nat.le_refl _) _
  have bX : Box w.heap.size #[.int .i64 x.id, .bool x.up, .int .i64 x.epoch, .int .i64 x.lease, .slice a4 x.writes.length d4, .int .i64 x.sure, .int .i64 x.clean] 29 (w.alloc (.cells #[.int .i64 x.id, .bool x.up, .int .i64 x.epoch, .int .i64 x.lease, .slice a4 x.writes.length d4, .int .i64 x.sure, .int .i64 x.clean] 29)) w.heap.size := newBox (Nat.le_refl _)
  have HT := hide (takenC _ x.writes _ (R4.later nb))
  have HN := hide hN
  have HB := hide nb
  have HX := hide bX
  clear h hN nb bX R4
  go_enter Try.func13, Try.ntmps13
  go_wp2_with fail
  generalize w.alloc (.cells #[.int .i64 x.id, .bool x.up, .int .i64 x.epoch, .int .i64 x.lease, .slice a4 x.writes.length d4, .int .i64 x.sure, .int .i64 x.clean] 29) = W0 at *
  have x1 := (unhide HX).at 1 _ rfl
  have x2 := (unhide HX).at 2 _ rfl
  have x3 := (unhide HX).at 3 _ rfl
  have x4 := (unhide HX).at 4 _ rfl
  have x5 := (unhide HX).at 5 _ rfl
  have x6 := (unhide HX).at 6 _ rfl
  simp only [List.getElem_toArray, List.getElem_cons_zero, List.getElem_cons_succ] at x1 x2 x3 x4 x5 x6
  have xl := (unhide HX).lt
  refine (isNodeIdC x.id W0).mono ?_
  rintro e W1 ⟨rfl, h1⟩
  subst W1
  cases d1 : (decide (1 ≤ x.id) && decide (x.id ≤ 5))
  · have HF := hide (nf_id d1)
    clear d1
    go_wp2_with fail
    go_ret
    exact ⟨by rw [unhide HF]; rfl, unhide HB⟩
  · go_wp2_with fail
    refine (isUpToC x.epoch 999 W0).mono ?_
    rintro e W1 ⟨rfl, h1⟩
    subst W1
    cases d2 : (decide (0 ≤ x.epoch) && decide (x.epoch ≤ 999))
    · have HF := hide (nf_epoch d2)
      clear d1 d2
      go_wp2_with fail
      go_ret
      exact ⟨by rw [unhide HF]; rfl, unhide HB⟩
    · go_wp2_with fail
      refine (isUpToC x.lease 9999 W0).mono ?_
      rintro e W1 ⟨rfl, h1⟩
      subst W1
      cases d3 : (decide (0 ≤ x.lease) && decide (x.lease ≤ 9999))
      · have HF := hide (nf_lease d3)
        clear d1 d2 d3
        go_wp2_with fail
        go_ret
        exact ⟨by rw [unhide HF]; rfl, unhide HB⟩
      · have HF := hide (nf_rest d1 d2 d3)
        clear d1 d2 d3
        go_wp2_with fail
        refine (unhide HT).mono ?_
        rintro e W1 ⟨rfl, hb⟩
        have bX1 := (unhide HX).keep hb
        replace x1 := bX1.at 1 _ rfl
        replace x2 := bX1.at 2 _ rfl
        replace x3 := bX1.at 3 _ rfl
        replace x4 := bX1.at 4 _ rfl
        replace x5 := bX1.at 5 _ rfl
        replace x6 := bX1.at 6 _ rfl
        have x0 := bX1.at 0 _ rfl
        simp only [List.getElem_toArray, List.getElem_cons_zero, List.getElem_cons_succ] at x0 x1 x2 x3 x4 x5 x6
        replace xl := bX1.lt
        have HB1 := hide ((unhide HB).trans (hb.mono (unhide HB).size))
        clear hb bX1 HT HX HB
        by_cases ht : takenF x.writes = 0
        · rw [ht]
          have HF1 := hide ((unhide HF).trans (if_neg (by simpa using ht)))
          clear HF ht
          go_wp2_with fail
          refine (isUpToC x.sure (x.writes.length : Int) W1).mono ?_
          rintro e W2 ⟨rfl, h1⟩
          subst W2
          cases d4 : (decide (0 ≤ x.sure) && decide (x.sure ≤ (x.writes.length : Int)))
          · have HF2 := hide ((unhide HF1).trans (if_neg (by rw [d4]; simp)))
            clear HF1 d4
            go_wp2_with fail
            go_ret
            exact ⟨by rw [unhide HF2]; rfl, unhide HB1⟩
          · go_wp2_with fail
            refine (isUpToC x.clean x.sure W1).mono ?_
            rintro e W2 ⟨rfl, h1⟩
            subst W2
            cases d5 : (decide (0 ≤ x.clean) && decide (x.clean ≤ x.sure))
            · have HF2 := hide ((unhide HF1).trans (if_neg (by rw [d5]; simp)))
              clear HF1 d4 d5
              go_wp2_with fail
              go_ret
              exact ⟨by rw [unhide HF2]; rfl, unhide HB1⟩
            · have HF2 := hide ((unhide HF1).trans (if_pos ⟨d4, d5⟩))
              clear HF1 d4 d5
              have HD := hide (isDownRightC _ x W1 ((unhide HN).later (unhide HB1)))
              cases hu : x.up
              · rw [hu] at x1 HF2 HD
                cases hdn : downB x
                · have HF3 := hide ((unhide HF2).trans (if_pos ⟨rfl, hdn⟩))
                  rw [hdn] at HD
                  clear HF2 hdn hu
                  go_wp2_with fail
                  refine (unhide HD).mono ?_
                  rintro e W2 ⟨rfl, hb⟩
                  have HB2 := hide ((unhide HB1).trans (hb.mono (unhide HB1).size))
                  clear hb HD
                  go_wp2_with fail
                  go_ret
                  exact ⟨by rw [unhide HF3]; rfl, unhide HB2⟩
                · have HF3 := hide ((unhide HF2).trans (if_neg (by simp [hdn])))
                  rw [hdn] at HD
                  clear HF2 hdn hu
                  go_wp2_with fail
                  refine (unhide HD).mono ?_
                  rintro e W2 ⟨rfl, hb⟩
                  have HB2 := hide ((unhide HB1).trans (hb.mono (unhide HB1).size))
                  clear hb HD
                  go_wp2_with fail
                  go_ret
                  exact ⟨by rw [unhide HF3]; rfl, unhide HB2⟩
              · rw [hu] at x1 HF2
                have HF3 := hide ((unhide HF2).trans (if_neg (by simp)))
                clear HF2 hu HD
                go_wp2_with fail
                go_ret
                exact ⟨by rw [unhide HF3]; rfl, unhide HB1⟩
        · have HF1 := hide ((unhide HF).trans (if_pos (by simpa using ht)))
          have hd : (takenF x.writes != 0) = true := by simpa using ht
          clear HF ht
          generalize takenF x.writes = c at *
          go_wp2_with fail
          go_ret
          exact ⟨by rw [unhide HF1]; rfl, unhide HB1⟩
end Go.Proofs.Ytbogjepkdcknfaa

namespace Go.Proofs.Ytbogjepkdcknfaa
open Go.RowKit

set_option maxHeartbeats 400000 in
theorem slClone (ad : Addr) (cap : Nat) (zs : List Int) (w : World) (h : IsInts w (.slice (some ad) zs.length cap) zs) (hn : zs.length ≤ 100000000) :
    Calls Try.prog 93 #[.slice (some ad) zs.length cap] w fun e w' => ∃ v', e = .returned v' ∧ w'.ownsRow w.heap.size 2 1 v' zs.length (zs.map (Value.int .i64)) ∧ Below w.heap.size w w' := by
  have nb : Below w.heap.size w (w.alloc (.cells #[] 2)) := (Below.refl _ _).alloc (Nat.le_refl _) _
  have O : (w.alloc (.cells #[] 2)).ownsRow w.heap.size 2 1 (.slice (some ⟨w.heap.size, 0, none⟩) 0 0) 0 [] := World.ownsRow_lit w _ 0 (Nat.le_refl _) (by unfold maxLen; omega) rfl
  have h1 := h.later nb
  have HB := hide nb
  have hnil : ∀ w : World, (binOp .eql 79 (.slice (some ad) zs.length cap) (.slice none 0 0)).run Try.prog w = .ok (.bool false) w := fun _ => by kernel_rfl
  clear nb h
  go_enter Try.func93, Try.ntmps93
  go_wp2_with (at_builtin; refine wpList_append_ints O h1 rfl _ _ rfl rfl rfl (by omega) (by simp) ?_)
  rintro v' w' O2 - hb
  have HB2 := hide ((unhide HB).trans hb)
  clear O h1 hb HB
  go_wp2_with fail
  go_ret
  exact ⟨v', rfl, by simpa using O2, unhide HB2⟩

end Go.Proofs.Ytbogjepkdcknfaa

namespace Go.Proofs.Ytbogjepkdcknfaa
open Go.RowKit

set_option maxHeartbeats 400000 in
theorem clone_nil (d : Nat) (w : World) : Calls Try.prog 93 #[.slice none 0 d] w fun e w' => e = .returned (.slice none 0 0) ∧ Below w.heap.size w w' := by
  have hnil : ∀ w : World, (binOp .eql 79 (.slice none 0 d) (.slice none 0 0)).run Try.prog w = .ok (.bool true) w := fun _ => by kernel_rfl
  have HB : Hid (∀ o, Below w.heap.size w (w.alloc o)) := fun o => (Below.refl _ _).alloc (Nat.le_refl _) o
  go_enter Try.func93, Try.ntmps93
  go_wp2_with fail
  go_ret
  exact ⟨rfl, Below.refl _ _⟩
theorem cloneC (v : Value) (zs : List Int) (w : World) (h : (Lay.sl Lay.int).Reads w [v] zs) (hn : zs.length ≤ 10000000) :
    Calls Try.prog 93 #[v] w fun e w' => ∃ a n c, e = .returned (.slice a n c) ∧ ((Lay.sl Lay.int).OwnIn w' [.slice a n c] zs w.heap.size w'.heap.size ∧ n = zs.length) ∧ Below w.heap.size w w' := by
  obtain ⟨ao, cap, rfl⟩ := open_sl h
  cases ao with
  | none =>
    have h0 : zs = [] := by
      by_cases hp : 0 < zs.length
      · obtain ⟨b, off, e, -⟩ := Lay.sl_addr h hp
        cases e
      · exact List.eq_nil_of_length_eq_zero (by omega)
    subst h0
    refine (clone_nil cap w).mono ?_
    rintro e w' ⟨rfl, hb⟩
    exact ⟨none, 0, 0, rfl, ⟨nil_own, rfl⟩, hb⟩
  | some ad =>
    refine (slClone ad cap zs w (Lay.ints_reads h) (by omega)).mono ?_
    rintro e w' ⟨v', rfl, O, hb⟩
    have hO := Lay.ownInts (Lay.ints_reads h).wf (by omega) O
    obtain ⟨a3, c3, rfl⟩ := open_sl hO.reads
    exact ⟨a3, _, c3, rfl, ⟨hO, rfl⟩, hb⟩

end Go.Proofs.Ytbogjepkdcknfaa

namespace Go.Proofs.Ytbogjepkdcknfaa
open Go.RowKit

theorem infoWriteC : (Try.prog.info? 83).map (fun i => (i.zero, i.size, decide (i.bytes ≤ 1000))) = some (some (.agg #[.int .i64 0, .int .i64 0, .slice none 0 0, .int .i64 0, .int .i64 0]), 5, true) := by kernel_rfl
theorem own_writeC {w : World} {x : DWrite} {v : Value} {lo hi : Nat} (h : (Lay.sl Lay.int).OwnIn w [v] x.vec lo hi) (v0 : (Lit.int .i64 x.kind).wf = true) (v1 : (Lit.int .i64 x.id).wf = true) (v3 : (Lit.int .i64 x.session).wf = true) (v4 : (Lit.int .i64 x.seq).wf = true) : Lay.tWrite.OwnIn w [.int .i64 x.kind, .int .i64 x.id, v, .int .i64 x.session, .int .i64 x.seq] x lo hi := by
  obtain ⟨bl, O, i⟩ := h
  exact ⟨bl, mkOwn_Write O v0 v1 v3 v4 O.2.1, i⟩
set_option maxRecDepth 10000 in
set_option maxHeartbeats 4000000 in
theorem copiedC (v : Value) (xs : List DWrite) (w : World) (h : (Lay.sl Lay.tWrite).Reads w [v] xs) (hlen : xs.length ≤ 1000000) (hv : ∀ x ∈ xs, x.vec.length ≤ 10000000) :
    Calls Try.prog 77 #[v] w fun e w' => ∃ (g : Nat), e = .returned (.slice (some ⟨g, 0, none⟩) xs.length xs.length) ∧ (Lay.sl Lay.tWrite).OwnIn w' [.slice (some ⟨g, 0, none⟩) xs.length xs.length] xs w.heap.size w'.heap.size ∧ Below w.heap.size w w' := by
  have hbig := h.big
  obtain ⟨ao, cap, rfl⟩ := open_sl h
  obtain ⟨i0, hi, hz0, hz1, hz2⟩ : ∃ i, Try.prog.info? 83 = some i ∧ i.zero = some (.agg #[.int .i64 0, .int .i64 0, .slice none 0 0, .int .i64 0, .int .i64 0]) ∧ i.size = 5 ∧ i.bytes ≤ 1000 := by
    have := infoWriteC
    cases hq : Try.prog.info? 83 with
    | none => rw [hq] at this; simp at this
    | some i =>
      rw [hq] at this
      simp only [Option.map_some, Option.some.injEq, Prod.mk.injEq, decide_eq_true_eq] at this
      exact ⟨i, rfl, this.1, this.2.1, this.2.2⟩
  have H := hide h
  have HN := hide hv
  clear h hv
  go_enter Try.func77, Try.ntmps77
  go_wp2_with (at_make; refine wpList_make_full _ rfl _ _ 27 rfl w.heap.size 83 i0 _ 5 Try.underlying27 hi hz0 hz1 _ _ _ _ xs.length rfl rfl rfl rfl ?c1 ?c2 ?c3 ?_)
  case c1 => have := Nat.mul_le_mul hz2 hlen; omega
  case c2 => unfold maxLen; omega
  case c3 => exact Nat.le_refl _
  intro w1 hown1 hgrow1
  have hB1 : Below w.heap.size w w1 := (Below.refl _ _).grown hgrow1 (Nat.le_refl _) (by simp)
  clear hgrow1 hi hz0 hz1 hz2
  have HO1 := hide hown1
  have HB1 := hide hB1
  clear hown1 hB1
  go_wp2_with fail
  go_loopw [11] (fun i wr => ∃ (k : Nat) (rows : List (List Value)) (Q : List Value) (hi : Nat), k ≤ xs.length ∧ i = .int .i64 k ∧ wr.ownsRow w.heap.size 83 5 (.slice (some ⟨w.heap.size, 0, none⟩) xs.length xs.length) xs.length (rows.flatten ++ Q) ∧ Q.length = (xs.length - k) * 5 ∧ Lay.Subs Lay.tWrite wr rows (xs.take k) (w.heap.size + 1) hi ∧ hi ≤ wr.heap.size ∧ w.heap.size < hi ∧ Below w.heap.size w wr) (fun i _ => xs.length - (intOf i).toNat)
  case atStart =>
    have hl := ((unhide HO1).lt w.heap.size rfl).2
    exact ⟨0, [], _, w1.heap.size, Nat.zero_le _, rfl, by simpa using unhide HO1, by have := (unhide HO1).1; simpa using this, Lay.subs_nil, Nat.le_refl _, hl, unhide HB1⟩
  case round =>
    obtain ⟨k, rows, Q, hi, hk, rfl, hown, hQ, hsub, hhi, hlo, hB⟩ := hrel
    clear HO1 HB1
    by_cases hlt : k < xs.length
    · obtain ⟨b, off, rfl, hbl⟩ := Lay.sl_addr (unhide H) (by omega)
      obtain ⟨row, hc, hr⟩ := Lay.row_at (unhide H) hlt
      replace hr := hr.later hB
      have hr2 := hr
      obtain ⟨a2, d2, rfl, R2⟩ := open_Write hr2
      obtain ⟨v0, v1, v3, v4⟩ : (Lit.int .i64 (xs[k]).kind).wf = true ∧ (Lit.int .i64 (xs[k]).id).wf = true ∧ (Lit.int .i64 (xs[k]).session).wf = true ∧ (Lit.int .i64 (xs[k]).seq).wf = true := by
        obtain ⟨bl9, hl9⟩ := hr
        obtain ⟨a9, d9, b9, -, -, f0, f1, -, f3, f4⟩ := lies_Write.1 hl9
        exact ⟨f0, f1, f3, f4⟩
      have c0 : wr.cell? ⟨b, off + k * 5, none⟩ = some (.int .i64 (xs[k]).kind) := (hB.cell (p := ⟨b, off + k * 5, none⟩) hbl).trans (hc 0 (by decide))
      have c1 : wr.cell? ⟨b, off + k * 5 + 1, none⟩ = some (.int .i64 (xs[k]).id) := (hB.cell (p := ⟨b, off + k * 5 + 1, none⟩) hbl).trans (hc 1 (by decide))
      have c2 : wr.cell? ⟨b, off + k * 5 + 2, none⟩ = some (.slice a2 (xs[k]).vec.length d2) := (hB.cell (p := ⟨b, off + k * 5 + 2, none⟩) hbl).trans (hc 2 (by decide))
      have c3' : wr.cell? ⟨b, off + k * 5 + 3, none⟩ = some (.int .i64 (xs[k]).session) := (hB.cell (p := ⟨b, off + k * 5 + 3, none⟩) hbl).trans (hc 3 (by decide))
      have c4 : wr.cell? ⟨b, off + k * 5 + 4, none⟩ = some (.int .i64 (xs[k]).seq) := (hB.cell (p := ⟨b, off + k * 5 + 4, none⟩) hbl).trans (hc 4 (by decide))
      have hrl : rows.flatten.length = k * 5 := by have := (Lay.subs_len hsub).1; rw [List.length_take, Nat.min_eq_left hk] at this; exact this
      have hvl := unhide HN xs[k] (List.getElem_mem hlt)
      have HT : Hid (xs.take (k + 1) = xs.take k ++ [xs[k]]) := List.take_succ_eq_append_getElem hlt
      have HB := hide hB
      have HO := hide hown
      have HS := hide hsub
      have HQ := hide hQ
      have HV := hide (And.intro v0 (And.intro v1 (And.intro v3 v4)))
      clear hB hr hc hown hsub hQ v0 v1 v3 v4
      generalize hxk : xs[k] = x at *
      clear hxk
      have hbr : b < wr.heap.size := Nat.lt_of_lt_of_le hbl (unhide HB).size
      have nb : Below wr.heap.size wr (wr.alloc (.cells #[.int .i64 x.kind, .int .i64 x.id, .slice a2 x.vec.length d2, .int .i64 x.session, .int .i64 x.seq] 83)) := (Below.refl _ _).alloc (Nat.le_refl _) _
      have bT : Box wr.heap.size #[.int .i64 x.kind, .int .i64 x.id, .slice a2 x.vec.length d2, .int .i64 x.session, .int .i64 x.seq] 83 (wr.alloc (.cells #[.int .i64 x.kind, .int .i64 x.id, .slice a2 x.vec.length d2, .int .i64 x.session, .int .i64 x.seq] 83)) wr.heap.size := newBox (Nat.le_refl _)
      have HL := hide (cloneC _ x.vec _ (R2.later nb) hvl)
      have HNB := hide nb
      have HBT := hide bT
      clear R2 nb bT
      go_wp2_with fail
      clear c0 c1 c2 c3' c4
      refine (unhide HL).mono ?_
      generalize hW0 : wr.alloc (.cells #[.int .i64 x.kind, .int .i64 x.id, .slice a2 x.vec.length d2, .int .i64 x.session, .int .i64 x.seq] 83) = W0 at *
      have hz0 : W0.heap.size = wr.heap.size + 1 := by rw [← hW0]; simp
      clear hW0
      rintro e w2 ⟨a3, n3, c3, rfl, ⟨O, hn3⟩, hb⟩
      subst hn3
      have hbt := (unhide HBT).keep hb
      have y0 := hbt.at 0 _ rfl
      have y1 := hbt.at 1 _ rfl
      have y2 := hbt.at 2 _ rfl
      have y3 := hbt.at 3 _ rfl
      have y4 := hbt.at 4 _ rfl
      have yf := hbt.soft
      have yl := hbt.lt
      simp only [List.getElem_toArray, List.getElem_cons_zero, List.getElem_cons_succ] at y0 y1 y2 y3 y4
      have hnb2 := (unhide HNB).trans (hb.mono (unhide HNB).size)
      have hz2 : W0.heap.size ≤ w2.heap.size := hb.size
      have e3 : Ext (fun q => q = wr.heap.size) w2 (w2.setCell ⟨wr.heap.size, 2, none⟩ (.slice a3 x.vec.length c3)) := (Ext.refl (fun q => q = wr.heap.size) _).setCell ⟨wr.heap.size, 2, none⟩ _ rfl
      have hb3 : Below wr.heap.size wr (w2.setCell ⟨wr.heap.size, 2, none⟩ (.slice a3 x.vec.length c3)) := hnb2.setCell (by simp) _
      have o2 := own_below (unhide HO) hb3
      have o1 := own_below (unhide HO) hnb2
      have ow : Lay.tWrite.OwnIn (w2.setCell ⟨wr.heap.size, 2, none⟩ (.slice a3 x.vec.length c3)) [.int .i64 x.kind, .int .i64 x.id, .slice a3 x.vec.length c3, .int .i64 x.session, .int .i64 x.seq] x W0.heap.size w2.heap.size := own_writeC (O.ext e3 (fun q h1 h2 h3 => by omega)) (unhide HV).1 (unhide HV).2.1 (unhide HV).2.2.1 (unhide HV).2.2.2
      replace HS := hide (Lay.subs_snoc (Lay.subs_ext (unhide HS) (ext_of_below hb3 nowhere) (fun _ _ _ h => h)) ow (by omega) (by omega) (by omega))
      have hb2 := (unhide HB).trans (hb3.mono (unhide HB).size)
      have hz3 : (w2.setCell ⟨wr.heap.size, 2, none⟩ (.slice a3 x.vec.length c3)).heap.size = w2.heap.size := by simp
      have hxw : w.heap.size < wr.heap.size := by omega
      clear hb HB HO O HV HNB HBT HL hnb2 e3 hb3 ow hbt
      have hQ := unhide HQ
      have hl5 : (rows.flatten ++ Q).length = xs.length * 5 := o2.1
      obtain ⟨u0, g0⟩ : ∃ u, w2.cell? ⟨w.heap.size, k * 5, none⟩ = some u := by
        rw [o1.cellAt (k * 5) (by omega)]
        exact ⟨_, List.getElem?_eq_getElem (by omega)⟩
      have t0 := o1.frozenAt (k * 5)
      obtain ⟨u1, g1⟩ : ∃ u, w2.cell? ⟨w.heap.size, k * 5 + 1, none⟩ = some u := by
        rw [o1.cellAt (k * 5 + 1) (by omega)]
        exact ⟨_, List.getElem?_eq_getElem (by omega)⟩
      have t1 := o1.frozenAt (k * 5 + 1)
      obtain ⟨u2, g2⟩ : ∃ u, w2.cell? ⟨w.heap.size, k * 5 + 2, none⟩ = some u := by
        rw [o1.cellAt (k * 5 + 2) (by omega)]
        exact ⟨_, List.getElem?_eq_getElem (by omega)⟩
      have t2 := o1.frozenAt (k * 5 + 2)
      obtain ⟨u3, g3⟩ : ∃ u, w2.cell? ⟨w.heap.size, k * 5 + 3, none⟩ = some u := by
        rw [o1.cellAt (k * 5 + 3) (by omega)]
        exact ⟨_, List.getElem?_eq_getElem (by omega)⟩
      have t3 := o1.frozenAt (k * 5 + 3)
      obtain ⟨u4, g4⟩ : ∃ u, w2.cell? ⟨w.heap.size, k * 5 + 4, none⟩ = some u := by
        rw [o1.cellAt (k * 5 + 4) (by omega)]
        exact ⟨_, List.getElem?_eq_getElem (by omega)⟩
      have t4 := o1.frozenAt (k * 5 + 4)
      have o3 := own_setAll o2 (k * 5) [.int .i64 x.kind, .int .i64 x.id, .slice a3 x.vec.length c3, .int .i64 x.session, .int .i64 x.seq]
      rw [show k * 5 = rows.flatten.length from hrl.symm, setFrom_app _ _ _ (by rw [hQ]; simp; have : 1 * 5 ≤ (xs.length - k) * 5 := Nat.mul_le_mul_right _ (by omega); omega), hrl] at o3
      have E : Ext (fun q => q = w.heap.size) (w2.setCell ⟨wr.heap.size, 2, none⟩ (.slice a3 x.vec.length c3)) (setAll (w2.setCell ⟨wr.heap.size, 2, none⟩ (.slice a3 x.vec.length c3)) w.heap.size (k * 5) [.int .i64 x.kind, .int .i64 x.id, .slice a3 x.vec.length c3, .int .i64 x.session, .int .i64 x.seq]) := ext_setAll _ (Ext.refl _ _) _ _ _ rfl
      replace HS := hide (Lay.subs_ext (unhide HS) E (fun q h1 h2 h3 => by omega))
      have HB := hide (below_setAll hb2 w.heap.size (k * 5) [.int .i64 x.kind, .int .i64 x.id, .slice a3 x.vec.length c3, .int .i64 x.session, .int .i64 x.seq] (Nat.le_refl _))
      have HZ : Hid ((setAll (w2.setCell ⟨wr.heap.size, 2, none⟩ (.slice a3 x.vec.length c3)) w.heap.size (k * 5) [.int .i64 x.kind, .int .i64 x.id, .slice a3 x.vec.length c3, .int .i64 x.session, .int .i64 x.seq]).heap.size = w2.heap.size) := (size_setAll _ _ _ _).trans hz3
      have HO : Hid ((setAll (w2.setCell ⟨wr.heap.size, 2, none⟩ (.slice a3 x.vec.length c3)) w.heap.size (k * 5) [.int .i64 x.kind, .int .i64 x.id, .slice a3 x.vec.length c3, .int .i64 x.session, .int .i64 x.seq]).ownsRow w.heap.size 83 5 (.slice (some ⟨w.heap.size, 0, none⟩) xs.length xs.length) xs.length ((rows ++ [([.int .i64 x.kind, .int .i64 x.id, .slice a3 x.vec.length c3, .int .i64 x.session, .int .i64 x.seq] : List Value)]).flatten ++ Q.drop 5)) := by
        show (setAll (w2.setCell ⟨wr.heap.size, 2, none⟩ (.slice a3 x.vec.length c3)) w.heap.size (k * 5) [.int .i64 x.kind, .int .i64 x.id, .slice a3 x.vec.length c3, .int .i64 x.session, .int .i64 x.seq]).ownsRow w.heap.size 83 5 (.slice (some ⟨w.heap.size, 0, none⟩) xs.length xs.length) xs.length ((rows ++ [([.int .i64 x.kind, .int .i64 x.id, .slice a3 x.vec.length c3, .int .i64 x.session, .int .i64 x.seq] : List Value)]).flatten ++ Q.drop 5)
        rw [List.flatten_append]
        simpa using o3
      have hl2 := (o1.lt w.heap.size rfl).2
      clear o3 o2 o1 E hb2 hl5
      have hQ2 : Hid ((Q.drop 5).length = (xs.length - (k + 1)) * 5) := by
        show (Q.drop 5).length = (xs.length - (k + 1)) * 5
        rw [List.length_drop, hQ, show xs.length - k = xs.length - (k + 1) + 1 by omega, Nat.add_mul]
        omega
      have HW2 : Hid (w.heap.size < w2.heap.size) := hl2
      clear hQ HQ hz3 hz2 hz0
      go_wp2_with fail
      go_roundw
      case rel => exact ⟨k + 1, rows ++ [([.int .i64 x.kind, .int .i64 x.id, .slice a3 x.vec.length c3, .int .i64 x.session, .int .i64 x.seq] : List Value)], Q.drop 5, w2.heap.size, by omega, by go_num, unhide HO, unhide hQ2, (by rw [unhide HT]; exact unhide HS), Nat.le_of_eq (unhide HZ).symm, unhide HW2, unhide HB⟩
      case measure => simp [intOf]; omega
    · obtain rfl : k = xs.length := by omega
      have e0 : Q = [] := List.eq_nil_of_length_eq_zero (by rw [hQ]; simp)
      subst e0
      rw [List.append_nil] at hown
      rw [List.take_length] at hsub
      have HO := hide (Lay.subs_done (A := Lay.tWrite) hown hsub (by omega) hhi hbig)
      have HB := hide hB
      clear hown hsub hB
      go_wp2_with fail
      go_ret
      exact ⟨_, rfl, unhide HO, unhide HB⟩

end Go.Proofs.Ytbogjepkdcknfaa

namespace Go.Proofs.Ytbogjepkdcknfaa
open Go.RowKit

/-- A node that is pointed at: its writes are v, and so many of them are sure. -/
def HeldAt (w : World) (g : Nat) (v : Value) (x : DNode) : Prop := Box 0 #[v, .int .i64 x.sure, .int .i64 x.id, .bool x.up, .int .i64 x.epoch, .int .i64 x.lease, .int .i64 x.clean] 65 w g
theorem HeldAt.keep {w w' : World} {g : Nat} {v : Value} {x : DNode} (h : HeldAt w g v x) (hb : Below w.heap.size w w') : HeldAt w' g v x := Box.keep h hb
theorem HeldAt.lt {w : World} {g : Nat} {v : Value} {x : DNode} (h : HeldAt w g v x) : g < w.heap.size := Box.lt h
theorem node_vecs {x : DNode} (h : NodeOK x) : ∀ y ∈ x.writes, y.vec.length ≤ 10000000 := fun y hy => by
  obtain ⟨-, -, -, hk⟩ := writeFault_zero (h.ws y hy)
  rcases hk with ⟨-, hv⟩ | ⟨-, hv⟩
  · have := (vecFault_zero hv).1; omega
  · rw [hv]; simp

set_option maxRecDepth 10000 in
set_option maxHeartbeats 1000000 in
theorem nodeOf_bad (cs : List Value) (x : DNode) (w : World) (h : Lay.tNode.Reads w cs x) (hf : nodeFault x ≠ 0) :
    Calls Try.prog 59 #[.agg cs.toArray] w fun e w' => e = .returned (.tuple #[.pointer none, .int .i64 (nodeFault x)]) ∧ Below w.heap.size w w' := by
  have hN := h
  obtain ⟨a4, d4, rfl, R4⟩ := open_Node h
  have nb : Below w.heap.size w (w.alloc (.cells #[.int .i64 x.id, .bool x.up, .int .i64 x.epoch, .int .i64 x.lease, .slice a4 x.writes.length d4, .int .i64 x.sure, .int .i64 x.clean] 29)) := (Below.refl _ _).alloc (Nat.le_refl _) _
  have bX : Box w.heap.size #[.int .i64 x.id, .bool x.up, .int .i64 x.epoch, .int .i64 x.lease, .slice a4 x.writes.length d4, .int .i64 x.sure, .int .i64 x.clean] 29 (w.alloc (.cells #[.int .i64 x.id, .bool x.up, .int .i64 x.epoch, .int .i64 x.lease, .slice a4 x.writes.length d4, .int .i64 x.sure, .int .i64 x.clean] 29)) w.heap.size := newBox (Nat.le_refl _)
  have HL := hide (implNodeFault _ x _ (hN.later nb))
  have HB := hide nb
  have hd : (nodeFault x != 0) = true := by simpa using hf
  clear h hN nb bX R4 hf
  generalize nodeFault x = c at *
  go_enter Try.func59, Try.ntmps59
  go_wp2_with fail
  refine (unhide HL).mono ?_
  rintro e w1 ⟨rfl, hb⟩
  have HB1 := hide ((unhide HB).trans (hb.mono (unhide HB).size))
  clear hb HL HB
  go_wp2_with fail
  refine bodyPost_ret (v := .tuple #[.pointer none, .int .i64 c]) (by simp [results, Try.results59, go_sem]) rfl ?_
  exact ⟨rfl, unhide HB1⟩

set_option maxRecDepth 10000 in
set_option maxHeartbeats 2000000 in
theorem nodeOf_ok (cs : List Value) (x : DNode) (w : World) (h : Lay.tNode.Reads w cs x) (hf : nodeFault x = 0) :
    Calls Try.prog 59 #[.agg cs.toArray] w fun e w' => ∃ g gw, e = .returned (.tuple #[.pointer (some ⟨g, 0, none⟩), .int .i64 0]) ∧ HeldAt w' g (.slice (some ⟨gw, 0, none⟩) x.writes.length x.writes.length) x ∧ (Lay.sl Lay.tWrite).OwnIn w' [.slice (some ⟨gw, 0, none⟩) x.writes.length x.writes.length] x.writes (g + 1) w'.heap.size ∧ w.heap.size ≤ g ∧ Below w.heap.size w w' := by
  have hN := h
  obtain ⟨a4, d4, rfl, R4⟩ := open_Node h
  have nb : Below w.heap.size w (w.alloc (.cells #[.int .i64 x.id, .bool x.up, .int .i64 x.epoch, .int .i64 x.lease, .slice a4 x.writes.length d4, .int .i64 x.sure, .int .i64 x.clean] 29)) := (Below.refl _ _).alloc (Nat.le_refl _) _
  have bX : Box w.heap.size #[.int .i64 x.id, .bool x.up, .int .i64 x.epoch, .int .i64 x.lease, .slice a4 x.writes.length d4, .int .i64 x.sure, .int .i64 x.clean] 29 (w.alloc (.cells #[.int .i64 x.id, .bool x.up, .int .i64 x.epoch, .int .i64 x.lease, .slice a4 x.writes.length d4, .int .i64 x.sure, .int .i64 x.clean] 29)) w.heap.size := newBox (Nat.le_refl _)
  have hok := nodeFault_zero hf
  have HL := hide (implNodeFault _ x _ (hN.later nb))
  rw [hf] at HL
  have hlen := hok.len
  have HV := hide (node_vecs hok)
  have HB := hide nb
  have HX := hide bX
  have HR := hide (R4.later nb)
  clear h hN nb bX R4 hf hok
  go_enter Try.func59, Try.ntmps59
  go_wp2_with fail
  generalize w.alloc (.cells #[.int .i64 x.id, .bool x.up, .int .i64 x.epoch, .int .i64 x.lease, .slice a4 x.writes.length d4, .int .i64 x.sure, .int .i64 x.clean] 29) = W0 at *
  refine (unhide HL).mono ?_
  rintro e w1 ⟨rfl, hb⟩
  have bX1 := (unhide HX).keep hb
  have HB1 := hide ((unhide HB).trans (hb.mono (unhide HB).size))
  have HR1 := hide ((unhide HR).later hb)
  have x0 := bX1.at 0 _ rfl
  have x1 := bX1.at 1 _ rfl
  have x2 := bX1.at 2 _ rfl
  have x3 := bX1.at 3 _ rfl
  have x4 := bX1.at 4 _ rfl
  have x5 := bX1.at 5 _ rfl
  have x6 := bX1.at 6 _ rfl
  simp only [List.getElem_toArray, List.getElem_cons_zero, List.getElem_cons_succ] at x0 x1 x2 x3 x4 x5 x6
  have xl := bX1.lt
  have hgs := (unhide HB1).size
  have nb2 : Below w1.heap.size w1 (w1.alloc (.cells #[.slice none 0 0, .int .i64 0, .int .i64 x.id, .bool x.up, .int .i64 x.epoch, .int .i64 x.lease, .int .i64 x.clean] 65)) := (Below.refl _ _).alloc (Nat.le_refl _) _
  have bH : Box 0 #[.slice none 0 0, .int .i64 0, .int .i64 x.id, .bool x.up, .int .i64 x.epoch, .int .i64 x.lease, .int .i64 x.clean] 65 (w1.alloc (.cells #[.slice none 0 0, .int .i64 0, .int .i64 x.id, .bool x.up, .int .i64 x.epoch, .int .i64 x.lease, .int .i64 x.clean] 65)) w1.heap.size := newBox (Nat.zero_le _)
  have HC := hide (copiedC _ x.writes _ ((unhide HR1).later nb2) (by omega) (unhide HV))
  have HX2 := hide (bX1.keep nb2)
  have HB2 := hide ((unhide HB1).trans (nb2.mono (unhide HB1).size))
  have HH := hide bH
  have hz2 : (w1.alloc (.cells #[.slice none 0 0, .int .i64 0, .int .i64 x.id, .bool x.up, .int .i64 x.epoch, .int .i64 x.lease, .int .i64 x.clean] 65)).heap.size = w1.heap.size + 1 := by simp
  have HZ2 : Hid (w1.heap.size + 1 ≤ (w1.alloc (.cells #[.slice none 0 0, .int .i64 0, .int .i64 x.id, .bool x.up, .int .i64 x.epoch, .int .i64 x.lease, .int .i64 x.clean] 65)).heap.size) := Nat.le_of_eq hz2.symm
  clear hb HL HB HX HR HR1 bX1 nb2 bH HB1 hz2
  go_wp2_with fail
  clear x0 x1 x2 x3 x4 x5 x6 xl
  refine (unhide HC).mono ?_
  generalize w1.alloc (.cells #[.slice none 0 0, .int .i64 0, .int .i64 x.id, .bool x.up, .int .i64 x.epoch, .int .i64 x.lease, .int .i64 x.clean] 65) = W2 at *
  rintro e w3 ⟨gw, rfl, O, hb⟩
  have bX3 := (unhide HX2).keep hb
  have bH3 := (unhide HH).keep hb
  have x5 := bX3.at 5 _ rfl
  have y0 := bH3.at 0 _ rfl
  have y1 := bH3.at 1 _ rfl
  have yf := bH3.soft
  have yl := bH3.lt
  have xl := bX3.lt
  have hxy : w.heap.size ≠ w1.heap.size := by
    have h1 := (unhide HX2).lt
    intro e
    have q1 := (unhide HX2).2
    have q2 := (unhide HH).2
    rw [e, q2] at q1
    simp at q1
  have hwlt : w.heap.size < w1.heap.size := by omega
  simp only [List.getElem_toArray, List.getElem_cons_zero, List.getElem_cons_succ] at x5 y0 y1
  have HF3 : Hid (HeldAt ((w3.setCell ⟨w1.heap.size, 0, none⟩ (.slice (some ⟨gw, 0, none⟩) x.writes.length x.writes.length)).setCell ⟨w1.heap.size, 1, none⟩ (.int .i64 x.sure)) w1.heap.size (.slice (some ⟨gw, 0, none⟩) x.writes.length x.writes.length) x) := (bH3.set 0 (.slice (some ⟨gw, 0, none⟩) x.writes.length x.writes.length)).set 1 (.int .i64 x.sure)
  have hzb := unhide HZ2
  have E : Ext (fun q => q = w1.heap.size) w3 ((w3.setCell ⟨w1.heap.size, 0, none⟩ (.slice (some ⟨gw, 0, none⟩) x.writes.length x.writes.length)).setCell ⟨w1.heap.size, 1, none⟩ (.int .i64 x.sure)) := ((Ext.refl (fun q => q = w1.heap.size) _).setCell ⟨w1.heap.size, 0, none⟩ _ rfl).setCell ⟨w1.heap.size, 1, none⟩ _ rfl
  have HO3 := hide ((O.ext E (fun q h1 h2 h3 => by omega)).mono (lo' := w1.heap.size + 1) (hi' := ((w3.setCell ⟨w1.heap.size, 0, none⟩ (.slice (some ⟨gw, 0, none⟩) x.writes.length x.writes.length)).setCell ⟨w1.heap.size, 1, none⟩ (.int .i64 x.sure)).heap.size) hzb (by simp))
  have HB3 : Hid (Below w.heap.size w ((w3.setCell ⟨w1.heap.size, 0, none⟩ (.slice (some ⟨gw, 0, none⟩) x.writes.length x.writes.length)).setCell ⟨w1.heap.size, 1, none⟩ (.int .i64 x.sure))) := (((unhide HB2).trans (hb.mono (unhide HB2).size)).setCell (by simpa using hgs) _).setCell (by simpa using hgs) _
  clear hb O bX3 bH3 E HC HX2 HH HB2 HZ2
  go_wp2_with fail
  refine bodyPost_ret (v := .tuple #[.pointer (some ⟨w1.heap.size, 0, none⟩), .int .i64 0]) (by simp [results, Try.results59, go_sem]) rfl ?_
  exact ⟨w1.heap.size, gw, rfl, unhide HF3, unhide HO3, hgs, unhide HB3⟩

set_option maxRecDepth 10000 in
set_option maxHeartbeats 1000000 in
theorem upNode_bad (cs : List Value) (x : DNode) (w : World) (h : Lay.tNode.Reads w cs x) (hf : askedN x ≠ 0) :
    Calls Try.prog 46 #[.agg cs.toArray] w fun e w' => e = .returned (.tuple #[.pointer none, .int .i64 (askedN x)]) ∧ Below w.heap.size w w' := by
  have hN := h
  obtain ⟨a4, d4, rfl, R4⟩ := open_Node h
  have nb : Below w.heap.size w (w.alloc (.cells #[.int .i64 x.id, .bool x.up, .int .i64 x.epoch, .int .i64 x.lease, .slice a4 x.writes.length d4, .int .i64 x.sure, .int .i64 x.clean] 29)) := (Below.refl _ _).alloc (Nat.le_refl _) _
  have bX : Box w.heap.size #[.int .i64 x.id, .bool x.up, .int .i64 x.epoch, .int .i64 x.lease, .slice a4 x.writes.length d4, .int .i64 x.sure, .int .i64 x.clean] 29 (w.alloc (.cells #[.int .i64 x.id, .bool x.up, .int .i64 x.epoch, .int .i64 x.lease, .slice a4 x.writes.length d4, .int .i64 x.sure, .int .i64 x.clean] 29)) w.heap.size := newBox (Nat.le_refl _)
  by_cases hn : nodeFault x = 0
  · have HL := hide (nodeOf_ok _ x _ (hN.later nb) hn)
    have ha : askedN x = 10 ∧ x.up = false := by
      unfold askedN at hf ⊢
      rw [if_pos hn] at hf ⊢
      cases hu : x.up
      · exact ⟨by simp, rfl⟩
      · rw [hu] at hf; simp at hf
    have HU := hide ha.2
    rw [ha.1]
    have HB := hide nb
    clear h hN nb bX R4 hf hn ha
    go_enter Try.func46, Try.ntmps46
    go_wp2_with fail
    refine (unhide HL).mono ?_
    rintro e w1 ⟨g, gw, rfl, hH, -, -, hb⟩
    have y3 := Box.at hH 3 _ rfl
    have yl := hH.lt
    simp only [List.getElem_toArray, List.getElem_cons_zero, List.getElem_cons_succ] at y3
    rw [unhide HU] at y3
    have HB1 := hide ((unhide HB).trans (hb.mono (unhide HB).size))
    clear hb HL HB hH
    go_wp2_with fail
    refine bodyPost_ret (v := .tuple #[.pointer none, .int .i64 10]) (by simp [results, Try.results46, go_sem]) rfl ?_
    exact ⟨rfl, unhide HB1⟩
  · have HL := hide (nodeOf_bad _ x _ (hN.later nb) hn)
    have ha : askedN x = nodeFault x := by rw [askedN, if_neg hn]
    rw [ha]
    have HB := hide nb
    have hd : (nodeFault x == 0) = false := by simpa using hn
    clear h hN nb bX R4 hf hn ha
    generalize nodeFault x = c at *
    go_enter Try.func46, Try.ntmps46
    go_wp2_with fail
    refine (unhide HL).mono ?_
    rintro e w1 ⟨rfl, hb⟩
    have HB1 := hide ((unhide HB).trans (hb.mono (unhide HB).size))
    clear hb HL HB
    go_wp2_with fail
    refine bodyPost_ret (v := .tuple #[.pointer none, .int .i64 c]) (by simp [results, Try.results46, go_sem]) rfl ?_
    exact ⟨rfl, unhide HB1⟩

set_option maxRecDepth 10000 in
set_option maxHeartbeats 1000000 in
theorem upNode_ok (cs : List Value) (x : DNode) (w : World) (h : Lay.tNode.Reads w cs x) (hf : askedN x = 0) :
    Calls Try.prog 46 #[.agg cs.toArray] w fun e w' => ∃ g gw, e = .returned (.tuple #[.pointer (some ⟨g, 0, none⟩), .int .i64 0]) ∧ HeldAt w' g (.slice (some ⟨gw, 0, none⟩) x.writes.length x.writes.length) x ∧ (Lay.sl Lay.tWrite).OwnIn w' [.slice (some ⟨gw, 0, none⟩) x.writes.length x.writes.length] x.writes (g + 1) w'.heap.size ∧ w.heap.size ≤ g ∧ Below w.heap.size w w' := by
  obtain ⟨hok, hu⟩ := askedN_zero hf
  have HU := hide hu
  clear hu
  have hN := h
  obtain ⟨a4, d4, rfl, R4⟩ := open_Node h
  have nb : Below w.heap.size w (w.alloc (.cells #[.int .i64 x.id, .bool x.up, .int .i64 x.epoch, .int .i64 x.lease, .slice a4 x.writes.length d4, .int .i64 x.sure, .int .i64 x.clean] 29)) := (Below.refl _ _).alloc (Nat.le_refl _) _
  have bX : Box w.heap.size #[.int .i64 x.id, .bool x.up, .int .i64 x.epoch, .int .i64 x.lease, .slice a4 x.writes.length d4, .int .i64 x.sure, .int .i64 x.clean] 29 (w.alloc (.cells #[.int .i64 x.id, .bool x.up, .int .i64 x.epoch, .int .i64 x.lease, .slice a4 x.writes.length d4, .int .i64 x.sure, .int .i64 x.clean] 29)) w.heap.size := newBox (Nat.le_refl _)
  have HL := hide (nodeOf_ok _ x _ (hN.later nb) hok.fault)
  have HB := hide nb
  clear h hN nb bX R4 hf hok
  go_enter Try.func46, Try.ntmps46
  go_wp2_with fail
  refine (unhide HL).mono ?_
  rintro e w1 ⟨g, gw, rfl, hH, O, hg, hb⟩
  have y3 := Box.at hH 3 _ rfl
  have yl := hH.lt
  simp only [List.getElem_toArray, List.getElem_cons_zero, List.getElem_cons_succ] at y3
  rw [unhide HU] at y3
  have HB1 := hide ((unhide HB).trans (hb.mono (unhide HB).size))
  have HH := hide hH
  have HO := hide O
  have HG := hide (Nat.le_trans (unhide HB).size hg)
  clear hb HL HB hH O hg
  go_wp2_with fail
  refine bodyPost_ret (v := .tuple #[.pointer (some ⟨g, 0, none⟩), .int .i64 0]) (by simp [results, Try.results46, go_sem]) rfl ?_
  exact ⟨g, gw, rfl, unhide HH, unhide HO, unhide HG, unhide HB1⟩

end Go.Proofs.Ytbogjepkdcknfaa

namespace Go.Proofs.Ytbogjepkdcknfaa
open Go.RowKit

theorem learn_val (a b i : Int) : (if a < (if b < i then b else i) then (if b < i then b else i) else a) = max a (min i b) := by
  by_cases h : b < i
  · rw [if_pos h]; split <;> omega
  · rw [if_neg h]; split <;> omega
theorem countC (g : Nat) (a : Option Addr) (n c : Nat) (x : DNode) (w : World) (h : HeldAt w g (.slice a n c) x) :
    Calls Try.prog 48 #[.pointer (some ⟨g, 0, none⟩)] w fun e w' => e = .returned (.int .i64 (n : Int)) ∧ w' = w := by
  have y0 := Box.at h 0 _ rfl
  simp only [List.getElem_toArray, List.getElem_cons_zero] at y0
  have yl := h.lt
  clear h
  go_enter Try.func48, Try.ntmps48
  go_wp2_with fail
  go_ret
  exact ⟨rfl, rfl⟩
set_option maxRecDepth 10000 in
set_option maxHeartbeats 1000000 in
theorem looseC (g : Nat) (a : Option Addr) (n c : Nat) (x : DNode) (w : World) (h : HeldAt w g (.slice a n c) x) (hs : 0 ≤ x.sure ∧ x.sure ≤ n) (hn : n ≤ 1000) :
    Calls Try.prog 56 #[.pointer (some ⟨g, 0, none⟩)] w fun e w' => e = .returned (.int .i64 ((n : Int) - x.sure)) ∧ Below w.heap.size w w' := by
  have hHD : HeldAt w.drew g (.slice a n c) x := h
  go_enter Try.func56, Try.ntmps56
  go_wp2_with fail
  refine wp_region_noPanic ?_
  refine wp_region_held_drew (S := fun w' => w' = w.drew) (by kernel_rfl) rfl (fun hHeld => ?_)
  refine wpAnyH_take (i := 0) (oi := { dst := some 3, op := Go.Op.move (Go.Operand.tmp 0), type := 88, pos := "l09_node.go:37", after := #[], guard := none }) (v := ?vo0) rfl (by kernel_rfl) (by kernel_rfl) (by kernel_rfl) (fun _ _ _ h => h) (Or.inl ⟨by rfl, ?ho0⟩) hHeld ?ro0
  case ho0 =>
    intro wS hSw
    (try dsimp only at hSw)
    go_simp
    try with_reducible rfl
  case ro0 =>
  simp only [Act.put, List.setIfInBounds_toArray, List.set_cons_zero, List.set_cons_succ]
  refine wpAnyH_take (i := 2) (oi := { dst := some 5, op := Go.Op.move (Go.Operand.tmp 0), type := 88, pos := "l09_node.go:37", after := #[], guard := none }) (v := ?vo2) rfl (by kernel_rfl) (by kernel_rfl) (by kernel_rfl) (fun _ _ _ h => h) (Or.inl ⟨by rfl, ?ho2⟩) hHeld ?ro2
  case ho2 =>
    intro wS hSw
    (try dsimp only at hSw)
    go_simp
    try with_reducible rfl
  case ro2 =>
  simp only [Act.put, List.setIfInBounds_toArray, List.set_cons_zero, List.set_cons_succ]
  refine wpAnyH_take (i := 3) (oi := { dst := some 6, op := Go.Op.nilCheck (Go.Operand.tmp 5), type := 0, pos := "l09_node.go:37", after := #[{ on := 2, ground := Go.Ground.data }], guard := none }) (v := ?vo3) rfl (by kernel_rfl) (by kernel_rfl) (by kernel_rfl) (fun _ _ _ h => h) (Or.inl ⟨by rfl, ?ho3⟩) hHeld ?ro3
  case ho3 =>
    intro wS hSw
    (try dsimp only at hSw)
    go_simp
    try with_reducible rfl
  case ro3 =>
  simp only [Act.put, List.setIfInBounds_toArray, List.set_cons_zero, List.set_cons_succ]
  refine wpAnyH_take (i := 4) (oi := { dst := some 7, op := Go.Op.fieldAddr 63 (Go.Operand.tmp 6) 1, type := 0, pos := "l09_node.go:37", after := #[{ on := 3, ground := Go.Ground.data }], guard := none }) (v := ?vo4) rfl (by kernel_rfl) (by kernel_rfl) (by kernel_rfl) (fun _ _ _ h => h) (Or.inl ⟨by rfl, ?ho4⟩) hHeld ?ro4
  case ho4 =>
    intro wS hSw
    (try dsimp only at hSw)
    go_simp
    try with_reducible rfl
  case ro4 =>
  simp only [Act.put, List.setIfInBounds_toArray, List.set_cons_zero, List.set_cons_succ]
  refine wpAnyH_take (i := 5) (oi := { dst := some 8, op := Go.Op.load 2 (Go.Operand.tmp 7), type := 2, pos := "l09_node.go:37", after := #[{ on := 4, ground := Go.Ground.data }], guard := none }) (v := ?vo5) rfl (by kernel_rfl) (by kernel_rfl) (by kernel_rfl) (fun _ _ _ h => h) (Or.inl ⟨by rfl, ?ho5⟩) hHeld ?ro5
  case ho5 =>
    intro wS hSw
    have y1 : wS.cell? ⟨g, 1, none⟩ = some (.int .i64 x.sure) := by rw [hSw]; exact Box.at hHD 1 _ rfl
    clear hSw
    (try dsimp only at hSw)
    go_simp
    try with_reducible rfl
  case ro5 =>
  simp only [Act.put, List.setIfInBounds_toArray, List.set_cons_zero, List.set_cons_succ]
  refine wpAnyH_ready (rs := [1]) (by kernel_rfl) (by simp) ?_
  refine AllReadyH.cons (o := { dst := some 4, op := Go.Op.call { callee := Go.Callee.value (Go.Operand.func 48), args := #[Go.Operand.tmp 3], argTypes := #[88] }, type := 2, pos := "l09_node.go:37", after := #[{ on := 0, ground := Go.Ground.data }], guard := none }) rfl (fun K hK => ?_) AllReadyH.nil
  go_simp
  go_at_call 48
  refine (countC g a n c x _ hHD).mono ?_
  rintro e w3 ⟨rfl, rfl⟩
  try go_wp2_with fail
  refine hK.out _ _ rfl (fun hHeld => ?_)
  clear hK K
  try simp only [Act.put, List.setIfInBounds_toArray, List.set_cons_zero, List.set_cons_succ]
  refine wpAnyH_take (i := 6) (oi := { dst := some 9, op := Go.Op.binOp Go.BinOp.sub 2 (Go.Operand.tmp 4) (Go.Operand.tmp 8) 2, type := 2, pos := "l09_node.go:37", after := #[{ on := 1, ground := Go.Ground.data }, { on := 5, ground := Go.Ground.data }], guard := none }) (v := ?vo6) rfl (by kernel_rfl) (by kernel_rfl) (by kernel_rfl) (fun _ _ _ h => h) (Or.inl ⟨by rfl, ?ho6⟩) hHeld ?ro6
  case ho6 =>
    intro wS hSw
    (try dsimp only at hSw)
    go_simp
    try with_reducible rfl
  case ro6 =>
  simp only [Act.put, List.setIfInBounds_toArray, List.set_cons_zero, List.set_cons_succ]
  refine wpAnyH_take (i := 7) (oi := { dst := some 2, op := Go.Op.assign (Go.Operand.tmp 9), type := 2, pos := "l09_node.go:37", after := #[{ on := 6, ground := Go.Ground.data }, { on := 1, ground := Go.Ground.chain }, { on := 0, ground := Go.Ground.phase }, { on := 1, ground := Go.Ground.phase }, { on := 2, ground := Go.Ground.phase }, { on := 3, ground := Go.Ground.phase }, { on := 4, ground := Go.Ground.phase }, { on := 5, ground := Go.Ground.phase }, { on := 6, ground := Go.Ground.phase }], guard := none }) (v := ?vo7) rfl (by kernel_rfl) (by kernel_rfl) (by kernel_rfl) (fun _ _ _ h => h) (Or.inl ⟨by rfl, ?ho7⟩) hHeld ?ro7
  case ho7 =>
    intro wS hSw
    (try dsimp only at hSw)
    go_simp
    try with_reducible rfl
  case ro7 =>
  simp only [Act.put, List.setIfInBounds_toArray, List.set_cons_zero, List.set_cons_succ]
  refine wpAnyH_done (by kernel_rfl) ?_ _
  refine NoPanic.normal ?_
  clear hHeld
  have hwr : IntKind.i64.wrap ((n : Int) - x.sure) = (n : Int) - x.sure := (by rw [IntKind.wrap_i64]; omega)
  go_wp2_with fail
  go_ret
  simp only [hwr]
  exact ⟨rfl, (Below.refl _ _).drew⟩
set_option maxRecDepth 10000 in
set_option maxHeartbeats 1000000 in
theorem syncC (g : Nat) (a : Option Addr) (n c : Nat) (x : DNode) (w : World) (h : HeldAt w g (.slice a n c) x) :
    Calls Try.prog 47 #[.pointer (some ⟨g, 0, none⟩)] w fun e w' => e = .returned (.tuple #[]) ∧ HeldAt w' g (.slice a n c) ⟨x.id, x.up, x.epoch, x.lease, x.writes, (n : Int), x.clean⟩ ∧ Ext (fun q => q = g) w w' := by
  have L := hide (countC g a n c x w h)
  have y1 := Box.at h 1 _ rfl
  simp only [List.getElem_toArray, List.getElem_cons_zero, List.getElem_cons_succ] at y1
  have yf := Box.soft h
  have yl := h.lt
  have HH : Hid (HeldAt (w.setCell ⟨g, 1, none⟩ (.int .i64 (n : Int))) g (.slice a n c) ⟨x.id, x.up, x.epoch, x.lease, x.writes, (n : Int), x.clean⟩) := Box.set h 1 (.int .i64 (n : Int))
  have HE : Hid (Ext (fun q => q = g) w (w.setCell ⟨g, 1, none⟩ (.int .i64 (n : Int)))) := (Ext.refl (fun q => q = g) _).setCell ⟨g, 1, none⟩ _ rfl
  clear h
  go_enter Try.func47, Try.ntmps47
  go_wp2_with fail
  refine (unhide L).mono ?_
  rintro e w1 ⟨rfl, h1⟩
  subst w1
  go_wp2_with fail
  refine bodyPost_end (v := .tuple #[]) (by simp [results, Try.results47, go_sem]) rfl ?_
  exact ⟨rfl, unhide HH, unhide HE⟩
set_option maxRecDepth 10000 in
set_option maxHeartbeats 2000000 in
theorem toldC (g : Nat) (a : Option Addr) (n c : Nat) (x : DNode) (w : World) (h : HeldAt w g (.slice a n c) x) :
    Calls Try.prog 49 #[.pointer (some ⟨g, 0, none⟩)] w fun e w' => e = .returned (.agg #[.int .i64 x.id, .bool x.up, .int .i64 x.epoch, .int .i64 x.lease, .slice a n c, .int .i64 x.sure, .int .i64 x.clean]) ∧ Below w.heap.size w w' := by
  have k0 := Box.at h 0 _ rfl
  have k1 := Box.at h 1 _ rfl
  have k2 := Box.at h 2 _ rfl
  have k3 := Box.at h 3 _ rfl
  have k4 := Box.at h 4 _ rfl
  have k5 := Box.at h 5 _ rfl
  have k6 := Box.at h 6 _ rfl
  simp only [List.getElem_toArray, List.getElem_cons_zero, List.getElem_cons_succ] at k0 k1 k2 k3 k4 k5 k6
  have hgl := h.lt
  have HB0 := hide ((Below.refl w.heap.size w).alloc (Nat.le_refl _) (.cells #[.int .i64 0, .bool false, .int .i64 0, .int .i64 0, .slice none 0 0, .int .i64 0, .int .i64 0] 29))
  have hRD : Box 0 #[.int .i64 0, .bool false, .int .i64 0, .int .i64 0, .slice none 0 0, .int .i64 0, .int .i64 0] 29 (w.alloc (.cells #[.int .i64 0, .bool false, .int .i64 0, .int .i64 0, .slice none 0 0, .int .i64 0, .int .i64 0] 29)).drew w.heap.size := (newBox (Nat.zero_le _)).drew
  clear h
  go_enter Try.func49, Try.ntmps49
  go_wp2_with fail
  generalize w.alloc (.cells #[.int .i64 0, .bool false, .int .i64 0, .int .i64 0, .slice none 0 0, .int .i64 0, .int .i64 0] 29) = W0 at *
  refine wp_region_noPanic ?_
  refine wp_region_held_drew (S := fun w' => Below w.heap.size w w') (by kernel_rfl) (unhide HB0).drew (fun hHeld => ?_)
  generalize W0.drew = wD at hHeld hRD ⊢
  refine wpAnyH_take (i := 0) (oi := { dst := some 3, op := Go.Op.move (Go.Operand.tmp 0), type := 59, pos := "l09_node.go:148", after := #[], guard := none }) (v := ?vt0) rfl (by kernel_rfl) (by kernel_rfl) (by kernel_rfl) (fun _ _ _ h => h) (Or.inl ⟨by rfl, ?ht0⟩) hHeld ?rt0
  case ht0 =>
    intro wS hSw
    (try dsimp only at hSw)
    go_simp
    try with_reducible rfl
  case rt0 =>
  simp only [Act.put, List.setIfInBounds_toArray, List.set_cons_zero, List.set_cons_succ]
  refine wpAnyH_take (i := 1) (oi := { dst := some 4, op := Go.Op.nilCheck (Go.Operand.tmp 3), type := 0, pos := "l09_node.go:148", after := #[{ on := 0, ground := Go.Ground.data }], guard := none }) (v := ?vt1) rfl (by kernel_rfl) (by kernel_rfl) (by kernel_rfl) (fun _ _ _ h => h) (Or.inl ⟨by rfl, ?ht1⟩) hHeld ?rt1
  case ht1 =>
    intro wS hSw
    (try dsimp only at hSw)
    go_simp
    try with_reducible rfl
  case rt1 =>
  simp only [Act.put, List.setIfInBounds_toArray, List.set_cons_zero, List.set_cons_succ]
  refine wpAnyH_take (i := 2) (oi := { dst := some 5, op := Go.Op.fieldAddr 65 (Go.Operand.tmp 4) 1, type := 0, pos := "l09_node.go:148", after := #[{ on := 1, ground := Go.Ground.data }], guard := none }) (v := ?vt2) rfl (by kernel_rfl) (by kernel_rfl) (by kernel_rfl) (fun _ _ _ h => h) (Or.inl ⟨by rfl, ?ht2⟩) hHeld ?rt2
  case ht2 =>
    intro wS hSw
    (try dsimp only at hSw)
    go_simp
    try with_reducible rfl
  case rt2 =>
  simp only [Act.put, List.setIfInBounds_toArray, List.set_cons_zero, List.set_cons_succ]
  refine wpAnyH_take (i := 3) (oi := { dst := some 6, op := Go.Op.load 2 (Go.Operand.tmp 5), type := 2, pos := "l09_node.go:148", after := #[{ on := 2, ground := Go.Ground.data }], guard := none }) (v := ?vt3) rfl (by kernel_rfl) (by kernel_rfl) (by kernel_rfl) (fun _ _ _ h => h) (Or.inl ⟨by rfl, ?ht3⟩) hHeld ?rt3
  case ht3 =>
    intro wS hSw
    have y2 : wS.cell? ⟨g, 2, none⟩ = some (.int .i64 x.id) := (hSw.cell (p := ⟨g, 2, none⟩) hgl).trans k2
    clear hSw
    (try dsimp only at hSw)
    go_simp
    try with_reducible rfl
  case rt3 =>
  simp only [Act.put, List.setIfInBounds_toArray, List.set_cons_zero, List.set_cons_succ]
  refine wpAnyH_take (i := 4) (oi := { dst := some 7, op := Go.Op.move (Go.Operand.tmp 0), type := 59, pos := "l09_node.go:148", after := #[], guard := none }) (v := ?vt4) rfl (by kernel_rfl) (by kernel_rfl) (by kernel_rfl) (fun _ _ _ h => h) (Or.inl ⟨by rfl, ?ht4⟩) hHeld ?rt4
  case ht4 =>
    intro wS hSw
    (try dsimp only at hSw)
    go_simp
    try with_reducible rfl
  case rt4 =>
  simp only [Act.put, List.setIfInBounds_toArray, List.set_cons_zero, List.set_cons_succ]
  refine wpAnyH_take (i := 5) (oi := { dst := some 8, op := Go.Op.nilCheck (Go.Operand.tmp 7), type := 0, pos := "l09_node.go:148", after := #[{ on := 4, ground := Go.Ground.data }], guard := none }) (v := ?vt5) rfl (by kernel_rfl) (by kernel_rfl) (by kernel_rfl) (fun _ _ _ h => h) (Or.inl ⟨by rfl, ?ht5⟩) hHeld ?rt5
  case ht5 =>
    intro wS hSw
    (try dsimp only at hSw)
    go_simp
    try with_reducible rfl
  case rt5 =>
  simp only [Act.put, List.setIfInBounds_toArray, List.set_cons_zero, List.set_cons_succ]
  refine wpAnyH_take (i := 6) (oi := { dst := some 9, op := Go.Op.fieldAddr 65 (Go.Operand.tmp 8) 2, type := 0, pos := "l09_node.go:148", after := #[{ on := 5, ground := Go.Ground.data }], guard := none }) (v := ?vt6) rfl (by kernel_rfl) (by kernel_rfl) (by kernel_rfl) (fun _ _ _ h => h) (Or.inl ⟨by rfl, ?ht6⟩) hHeld ?rt6
  case ht6 =>
    intro wS hSw
    (try dsimp only at hSw)
    go_simp
    try with_reducible rfl
  case rt6 =>
  simp only [Act.put, List.setIfInBounds_toArray, List.set_cons_zero, List.set_cons_succ]
  refine wpAnyH_take (i := 7) (oi := { dst := some 10, op := Go.Op.load 4 (Go.Operand.tmp 9), type := 4, pos := "l09_node.go:148", after := #[{ on := 6, ground := Go.Ground.data }], guard := none }) (v := ?vt7) rfl (by kernel_rfl) (by kernel_rfl) (by kernel_rfl) (fun _ _ _ h => h) (Or.inl ⟨by rfl, ?ht7⟩) hHeld ?rt7
  case ht7 =>
    intro wS hSw
    have y3 : wS.cell? ⟨g, 3, none⟩ = some (.bool x.up) := (hSw.cell (p := ⟨g, 3, none⟩) hgl).trans k3
    clear hSw
    (try dsimp only at hSw)
    go_simp
    try with_reducible rfl
  case rt7 =>
  simp only [Act.put, List.setIfInBounds_toArray, List.set_cons_zero, List.set_cons_succ]
  refine wpAnyH_take (i := 8) (oi := { dst := some 11, op := Go.Op.move (Go.Operand.tmp 0), type := 59, pos := "l09_node.go:148", after := #[], guard := none }) (v := ?vt8) rfl (by kernel_rfl) (by kernel_rfl) (by kernel_rfl) (fun _ _ _ h => h) (Or.inl ⟨by rfl, ?ht8⟩) hHeld ?rt8
  case ht8 =>
    intro wS hSw
    (try dsimp only at hSw)
    go_simp
    try with_reducible rfl
  case rt8 =>
  simp only [Act.put, List.setIfInBounds_toArray, List.set_cons_zero, List.set_cons_succ]
  refine wpAnyH_take (i := 9) (oi := { dst := some 12, op := Go.Op.nilCheck (Go.Operand.tmp 11), type := 0, pos := "l09_node.go:148", after := #[{ on := 8, ground := Go.Ground.data }], guard := none }) (v := ?vt9) rfl (by kernel_rfl) (by kernel_rfl) (by kernel_rfl) (fun _ _ _ h => h) (Or.inl ⟨by rfl, ?ht9⟩) hHeld ?rt9
  case ht9 =>
    intro wS hSw
    (try dsimp only at hSw)
    go_simp
    try with_reducible rfl
  case rt9 =>
  simp only [Act.put, List.setIfInBounds_toArray, List.set_cons_zero, List.set_cons_succ]
  refine wpAnyH_take (i := 10) (oi := { dst := some 13, op := Go.Op.fieldAddr 65 (Go.Operand.tmp 12) 3, type := 0, pos := "l09_node.go:148", after := #[{ on := 9, ground := Go.Ground.data }], guard := none }) (v := ?vt10) rfl (by kernel_rfl) (by kernel_rfl) (by kernel_rfl) (fun _ _ _ h => h) (Or.inl ⟨by rfl, ?ht10⟩) hHeld ?rt10
  case ht10 =>
    intro wS hSw
    (try dsimp only at hSw)
    go_simp
    try with_reducible rfl
  case rt10 =>
  simp only [Act.put, List.setIfInBounds_toArray, List.set_cons_zero, List.set_cons_succ]
  refine wpAnyH_take (i := 11) (oi := { dst := some 14, op := Go.Op.load 2 (Go.Operand.tmp 13), type := 2, pos := "l09_node.go:148", after := #[{ on := 10, ground := Go.Ground.data }], guard := none }) (v := ?vt11) rfl (by kernel_rfl) (by kernel_rfl) (by kernel_rfl) (fun _ _ _ h => h) (Or.inl ⟨by rfl, ?ht11⟩) hHeld ?rt11
  case ht11 =>
    intro wS hSw
    have y4 : wS.cell? ⟨g, 4, none⟩ = some (.int .i64 x.epoch) := (hSw.cell (p := ⟨g, 4, none⟩) hgl).trans k4
    clear hSw
    (try dsimp only at hSw)
    go_simp
    try with_reducible rfl
  case rt11 =>
  simp only [Act.put, List.setIfInBounds_toArray, List.set_cons_zero, List.set_cons_succ]
  refine wpAnyH_take (i := 12) (oi := { dst := some 15, op := Go.Op.move (Go.Operand.tmp 0), type := 59, pos := "l09_node.go:148", after := #[], guard := none }) (v := ?vt12) rfl (by kernel_rfl) (by kernel_rfl) (by kernel_rfl) (fun _ _ _ h => h) (Or.inl ⟨by rfl, ?ht12⟩) hHeld ?rt12
  case ht12 =>
    intro wS hSw
    (try dsimp only at hSw)
    go_simp
    try with_reducible rfl
  case rt12 =>
  simp only [Act.put, List.setIfInBounds_toArray, List.set_cons_zero, List.set_cons_succ]
  refine wpAnyH_take (i := 13) (oi := { dst := some 16, op := Go.Op.nilCheck (Go.Operand.tmp 15), type := 0, pos := "l09_node.go:148", after := #[{ on := 12, ground := Go.Ground.data }], guard := none }) (v := ?vt13) rfl (by kernel_rfl) (by kernel_rfl) (by kernel_rfl) (fun _ _ _ h => h) (Or.inl ⟨by rfl, ?ht13⟩) hHeld ?rt13
  case ht13 =>
    intro wS hSw
    (try dsimp only at hSw)
    go_simp
    try with_reducible rfl
  case rt13 =>
  simp only [Act.put, List.setIfInBounds_toArray, List.set_cons_zero, List.set_cons_succ]
  refine wpAnyH_take (i := 14) (oi := { dst := some 17, op := Go.Op.fieldAddr 65 (Go.Operand.tmp 16) 4, type := 0, pos := "l09_node.go:148", after := #[{ on := 13, ground := Go.Ground.data }], guard := none }) (v := ?vt14) rfl (by kernel_rfl) (by kernel_rfl) (by kernel_rfl) (fun _ _ _ h => h) (Or.inl ⟨by rfl, ?ht14⟩) hHeld ?rt14
  case ht14 =>
    intro wS hSw
    (try dsimp only at hSw)
    go_simp
    try with_reducible rfl
  case rt14 =>
  simp only [Act.put, List.setIfInBounds_toArray, List.set_cons_zero, List.set_cons_succ]
  refine wpAnyH_take (i := 15) (oi := { dst := some 18, op := Go.Op.load 2 (Go.Operand.tmp 17), type := 2, pos := "l09_node.go:148", after := #[{ on := 14, ground := Go.Ground.data }], guard := none }) (v := ?vt15) rfl (by kernel_rfl) (by kernel_rfl) (by kernel_rfl) (fun _ _ _ h => h) (Or.inl ⟨by rfl, ?ht15⟩) hHeld ?rt15
  case ht15 =>
    intro wS hSw
    have y5 : wS.cell? ⟨g, 5, none⟩ = some (.int .i64 x.lease) := (hSw.cell (p := ⟨g, 5, none⟩) hgl).trans k5
    clear hSw
    (try dsimp only at hSw)
    go_simp
    try with_reducible rfl
  case rt15 =>
  simp only [Act.put, List.setIfInBounds_toArray, List.set_cons_zero, List.set_cons_succ]
  refine wpAnyH_take (i := 16) (oi := { dst := some 19, op := Go.Op.move (Go.Operand.tmp 0), type := 59, pos := "l09_node.go:148", after := #[], guard := none }) (v := ?vt16) rfl (by kernel_rfl) (by kernel_rfl) (by kernel_rfl) (fun _ _ _ h => h) (Or.inl ⟨by rfl, ?ht16⟩) hHeld ?rt16
  case ht16 =>
    intro wS hSw
    (try dsimp only at hSw)
    go_simp
    try with_reducible rfl
  case rt16 =>
  simp only [Act.put, List.setIfInBounds_toArray, List.set_cons_zero, List.set_cons_succ]
  refine wpAnyH_take (i := 17) (oi := { dst := some 20, op := Go.Op.nilCheck (Go.Operand.tmp 19), type := 0, pos := "l09_node.go:148", after := #[{ on := 16, ground := Go.Ground.data }], guard := none }) (v := ?vt17) rfl (by kernel_rfl) (by kernel_rfl) (by kernel_rfl) (fun _ _ _ h => h) (Or.inl ⟨by rfl, ?ht17⟩) hHeld ?rt17
  case ht17 =>
    intro wS hSw
    (try dsimp only at hSw)
    go_simp
    try with_reducible rfl
  case rt17 =>
  simp only [Act.put, List.setIfInBounds_toArray, List.set_cons_zero, List.set_cons_succ]
  refine wpAnyH_take (i := 18) (oi := { dst := some 21, op := Go.Op.fieldAddr 65 (Go.Operand.tmp 20) 0, type := 0, pos := "l09_node.go:148", after := #[{ on := 17, ground := Go.Ground.data }], guard := none }) (v := ?vt18) rfl (by kernel_rfl) (by kernel_rfl) (by kernel_rfl) (fun _ _ _ h => h) (Or.inl ⟨by rfl, ?ht18⟩) hHeld ?rt18
  case ht18 =>
    intro wS hSw
    (try dsimp only at hSw)
    go_simp
    try with_reducible rfl
  case rt18 =>
  simp only [Act.put, List.setIfInBounds_toArray, List.set_cons_zero, List.set_cons_succ]
  refine wpAnyH_take (i := 19) (oi := { dst := some 22, op := Go.Op.fieldAddr 63 (Go.Operand.tmp 21) 0, type := 0, pos := "l09_node.go:148", after := #[{ on := 18, ground := Go.Ground.data }], guard := none }) (v := ?vt19) rfl (by kernel_rfl) (by kernel_rfl) (by kernel_rfl) (fun _ _ _ h => h) (Or.inl ⟨by rfl, ?ht19⟩) hHeld ?rt19
  case ht19 =>
    intro wS hSw
    (try dsimp only at hSw)
    go_simp
    try with_reducible rfl
  case rt19 =>
  simp only [Act.put, List.setIfInBounds_toArray, List.set_cons_zero, List.set_cons_succ]
  refine wpAnyH_take (i := 20) (oi := { dst := some 23, op := Go.Op.load 27 (Go.Operand.tmp 22), type := 27, pos := "l09_node.go:148", after := #[{ on := 19, ground := Go.Ground.data }], guard := none }) (v := ?vt20) rfl (by kernel_rfl) (by kernel_rfl) (by kernel_rfl) (fun _ _ _ h => h) (Or.inl ⟨by rfl, ?ht20⟩) hHeld ?rt20
  case ht20 =>
    intro wS hSw
    have y0 : wS.cell? ⟨g, 0, none⟩ = some (.slice a n c) := (hSw.cell (p := ⟨g, 0, none⟩) hgl).trans k0
    clear hSw
    (try dsimp only at hSw)
    go_simp
    try with_reducible rfl
  case rt20 =>
  simp only [Act.put, List.setIfInBounds_toArray, List.set_cons_zero, List.set_cons_succ]
  refine wpAnyH_take (i := 21) (oi := { dst := some 24, op := Go.Op.move (Go.Operand.tmp 0), type := 59, pos := "l09_node.go:148", after := #[], guard := none }) (v := ?vt21) rfl (by kernel_rfl) (by kernel_rfl) (by kernel_rfl) (fun _ _ _ h => h) (Or.inl ⟨by rfl, ?ht21⟩) hHeld ?rt21
  case ht21 =>
    intro wS hSw
    (try dsimp only at hSw)
    go_simp
    try with_reducible rfl
  case rt21 =>
  simp only [Act.put, List.setIfInBounds_toArray, List.set_cons_zero, List.set_cons_succ]
  refine wpAnyH_take (i := 22) (oi := { dst := some 25, op := Go.Op.nilCheck (Go.Operand.tmp 24), type := 0, pos := "l09_node.go:148", after := #[{ on := 21, ground := Go.Ground.data }], guard := none }) (v := ?vt22) rfl (by kernel_rfl) (by kernel_rfl) (by kernel_rfl) (fun _ _ _ h => h) (Or.inl ⟨by rfl, ?ht22⟩) hHeld ?rt22
  case ht22 =>
    intro wS hSw
    (try dsimp only at hSw)
    go_simp
    try with_reducible rfl
  case rt22 =>
  simp only [Act.put, List.setIfInBounds_toArray, List.set_cons_zero, List.set_cons_succ]
  refine wpAnyH_take (i := 23) (oi := { dst := some 26, op := Go.Op.fieldAddr 65 (Go.Operand.tmp 25) 0, type := 0, pos := "l09_node.go:148", after := #[{ on := 22, ground := Go.Ground.data }], guard := none }) (v := ?vt23) rfl (by kernel_rfl) (by kernel_rfl) (by kernel_rfl) (fun _ _ _ h => h) (Or.inl ⟨by rfl, ?ht23⟩) hHeld ?rt23
  case ht23 =>
    intro wS hSw
    (try dsimp only at hSw)
    go_simp
    try with_reducible rfl
  case rt23 =>
  simp only [Act.put, List.setIfInBounds_toArray, List.set_cons_zero, List.set_cons_succ]
  refine wpAnyH_take (i := 24) (oi := { dst := some 27, op := Go.Op.fieldAddr 63 (Go.Operand.tmp 26) 1, type := 0, pos := "l09_node.go:148", after := #[{ on := 23, ground := Go.Ground.data }], guard := none }) (v := ?vt24) rfl (by kernel_rfl) (by kernel_rfl) (by kernel_rfl) (fun _ _ _ h => h) (Or.inl ⟨by rfl, ?ht24⟩) hHeld ?rt24
  case ht24 =>
    intro wS hSw
    (try dsimp only at hSw)
    go_simp
    try with_reducible rfl
  case rt24 =>
  simp only [Act.put, List.setIfInBounds_toArray, List.set_cons_zero, List.set_cons_succ]
  refine wpAnyH_take (i := 25) (oi := { dst := some 28, op := Go.Op.load 2 (Go.Operand.tmp 27), type := 2, pos := "l09_node.go:148", after := #[{ on := 24, ground := Go.Ground.data }], guard := none }) (v := ?vt25) rfl (by kernel_rfl) (by kernel_rfl) (by kernel_rfl) (fun _ _ _ h => h) (Or.inl ⟨by rfl, ?ht25⟩) hHeld ?rt25
  case ht25 =>
    intro wS hSw
    have y1 : wS.cell? ⟨g, 1, none⟩ = some (.int .i64 x.sure) := (hSw.cell (p := ⟨g, 1, none⟩) hgl).trans k1
    clear hSw
    (try dsimp only at hSw)
    go_simp
    try with_reducible rfl
  case rt25 =>
  simp only [Act.put, List.setIfInBounds_toArray, List.set_cons_zero, List.set_cons_succ]
  refine wpAnyH_take (i := 26) (oi := { dst := some 29, op := Go.Op.move (Go.Operand.tmp 0), type := 59, pos := "l09_node.go:148", after := #[], guard := none }) (v := ?vt26) rfl (by kernel_rfl) (by kernel_rfl) (by kernel_rfl) (fun _ _ _ h => h) (Or.inl ⟨by rfl, ?ht26⟩) hHeld ?rt26
  case ht26 =>
    intro wS hSw
    (try dsimp only at hSw)
    go_simp
    try with_reducible rfl
  case rt26 =>
  simp only [Act.put, List.setIfInBounds_toArray, List.set_cons_zero, List.set_cons_succ]
  refine wpAnyH_take (i := 27) (oi := { dst := some 30, op := Go.Op.nilCheck (Go.Operand.tmp 29), type := 0, pos := "l09_node.go:148", after := #[{ on := 26, ground := Go.Ground.data }], guard := none }) (v := ?vt27) rfl (by kernel_rfl) (by kernel_rfl) (by kernel_rfl) (fun _ _ _ h => h) (Or.inl ⟨by rfl, ?ht27⟩) hHeld ?rt27
  case ht27 =>
    intro wS hSw
    (try dsimp only at hSw)
    go_simp
    try with_reducible rfl
  case rt27 =>
  simp only [Act.put, List.setIfInBounds_toArray, List.set_cons_zero, List.set_cons_succ]
  refine wpAnyH_take (i := 28) (oi := { dst := some 31, op := Go.Op.fieldAddr 65 (Go.Operand.tmp 30) 5, type := 0, pos := "l09_node.go:148", after := #[{ on := 27, ground := Go.Ground.data }], guard := none }) (v := ?vt28) rfl (by kernel_rfl) (by kernel_rfl) (by kernel_rfl) (fun _ _ _ h => h) (Or.inl ⟨by rfl, ?ht28⟩) hHeld ?rt28
  case ht28 =>
    intro wS hSw
    (try dsimp only at hSw)
    go_simp
    try with_reducible rfl
  case rt28 =>
  simp only [Act.put, List.setIfInBounds_toArray, List.set_cons_zero, List.set_cons_succ]
  refine wpAnyH_take (i := 29) (oi := { dst := some 32, op := Go.Op.load 2 (Go.Operand.tmp 31), type := 2, pos := "l09_node.go:148", after := #[{ on := 28, ground := Go.Ground.data }], guard := none }) (v := ?vt29) rfl (by kernel_rfl) (by kernel_rfl) (by kernel_rfl) (fun _ _ _ h => h) (Or.inl ⟨by rfl, ?ht29⟩) hHeld ?rt29
  case ht29 =>
    intro wS hSw
    have y6 : wS.cell? ⟨g, 6, none⟩ = some (.int .i64 x.clean) := (hSw.cell (p := ⟨g, 6, none⟩) hgl).trans k6
    clear hSw
    (try dsimp only at hSw)
    go_simp
    try with_reducible rfl
  case rt29 =>
  simp only [Act.put, List.setIfInBounds_toArray, List.set_cons_zero, List.set_cons_succ]
  refine wpAnyH_take (i := 30) (oi := { dst := some 33, op := Go.Op.build 29 #[(0, Go.Operand.tmp 6), (1, Go.Operand.tmp 10), (2, Go.Operand.tmp 14), (3, Go.Operand.tmp 18), (4, Go.Operand.tmp 23), (5, Go.Operand.tmp 28), (6, Go.Operand.tmp 32)], type := 29, pos := "l09_node.go:148", after := #[{ on := 3, ground := Go.Ground.data }, { on := 7, ground := Go.Ground.data }, { on := 11, ground := Go.Ground.data }, { on := 15, ground := Go.Ground.data }, { on := 20, ground := Go.Ground.data }, { on := 25, ground := Go.Ground.data }, { on := 29, ground := Go.Ground.data }], guard := none }) (v := ?vt30) rfl (by kernel_rfl) (by kernel_rfl) (by kernel_rfl) (fun _ _ _ h => h) (Or.inl ⟨by rfl, ?ht30⟩) hHeld ?rt30
  case ht30 =>
    intro wS hSw
    (try dsimp only at hSw)
    go_simp
    try with_reducible rfl
  case rt30 =>
  simp only [Act.put, List.setIfInBounds_toArray, List.set_cons_zero, List.set_cons_succ]
  refine wpAnyH_ready (rs := [31]) (by kernel_rfl) (by simp) ?_
  refine AllReadyH.cons (o := { dst := none, op := Go.Op.store 29 (Go.Operand.tmp 2) (Go.Operand.tmp 33), type := 0, pos := "l09_node.go:148", after := #[{ on := 30, ground := Go.Ground.data }, { on := 0, ground := Go.Ground.phase }, { on := 1, ground := Go.Ground.phase }, { on := 2, ground := Go.Ground.phase }, { on := 3, ground := Go.Ground.phase }, { on := 4, ground := Go.Ground.phase }, { on := 5, ground := Go.Ground.phase }, { on := 6, ground := Go.Ground.phase }, { on := 7, ground := Go.Ground.phase }, { on := 8, ground := Go.Ground.phase }, { on := 9, ground := Go.Ground.phase }, { on := 10, ground := Go.Ground.phase }, { on := 11, ground := Go.Ground.phase }, { on := 12, ground := Go.Ground.phase }, { on := 13, ground := Go.Ground.phase }, { on := 14, ground := Go.Ground.phase }, { on := 15, ground := Go.Ground.phase }, { on := 16, ground := Go.Ground.phase }, { on := 17, ground := Go.Ground.phase }, { on := 18, ground := Go.Ground.phase }, { on := 19, ground := Go.Ground.phase }, { on := 20, ground := Go.Ground.phase }, { on := 21, ground := Go.Ground.phase }, { on := 22, ground := Go.Ground.phase }, { on := 23, ground := Go.Ground.phase }, { on := 24, ground := Go.Ground.phase }, { on := 25, ground := Go.Ground.phase }, { on := 26, ground := Go.Ground.phase }, { on := 27, ground := Go.Ground.phase }, { on := 28, ground := Go.Ground.phase }, { on := 29, ground := Go.Ground.phase }, { on := 30, ground := Go.Ground.phase }], guard := none }) rfl (fun K hK => ?_) AllReadyH.nil
  have z0 := Box.at hRD 0 _ rfl
  have z1 := Box.at hRD 1 _ rfl
  have z2 := Box.at hRD 2 _ rfl
  have z3 := Box.at hRD 3 _ rfl
  have z4 := Box.at hRD 4 _ rfl
  have z5 := Box.at hRD 5 _ rfl
  have z6 := Box.at hRD 6 _ rfl
  simp only [List.getElem_toArray, List.getElem_cons_zero, List.getElem_cons_succ] at z0 z1 z2 z3 z4 z5 z6
  have ff := Box.soft hRD
  have l0 := Box.lt hRD
  go_simp
  try go_wp2_with fail
  refine hK.out _ _ (below_setAll hHeld w.heap.size 0 [.int .i64 x.id, .bool x.up, .int .i64 x.epoch, .int .i64 x.lease, .slice a n c, .int .i64 x.sure, .int .i64 x.clean] (Nat.le_refl _)) (fun hHeld => ?_)
  clear hK K
  try simp only [Act.put, List.setIfInBounds_toArray, List.set_cons_zero, List.set_cons_succ]
  refine wpAnyH_done (by kernel_rfl) ?_ _
  refine NoPanic.normal ?_
  have HB9 := hide (hHeld)
  clear hHeld
  go_wp2_with fail
  refine bodyPost_ret (v := .agg #[.int .i64 x.id, .bool x.up, .int .i64 x.epoch, .int .i64 x.lease, .slice a n c, .int .i64 x.sure, .int .i64 x.clean]) (by simp [results, Try.results49, go_sem, z0, z1, z2, z3, z4, z5, z6]) rfl ?_
  exact ⟨rfl, unhide HB9⟩
set_option maxRecDepth 10000 in
set_option maxHeartbeats 2000000 in
theorem learnC (g : Nat) (a : Option Addr) (n c : Nat) (x : DNode) (i : Int) (w : World) (h : HeldAt w g (.slice a n c) x) :
    Calls Try.prog 54 #[.pointer (some ⟨g, 0, none⟩), .int .i64 i] w fun e w' => e = .returned (.tuple #[]) ∧ HeldAt w' g (.slice a n c) ⟨x.id, x.up, x.epoch, x.lease, x.writes, x.sure, max x.clean (min i x.sure)⟩ ∧ Ext (fun q => q = g) w w' := by
  have hHD : HeldAt w.drew g (.slice a n c) x := h
  have k0 := Box.at hHD 0 _ rfl
  have k1 := Box.at hHD 1 _ rfl
  have k6 := Box.at hHD 6 _ rfl
  have kf := Box.soft hHD
  have kl := Box.lt hHD
  simp only [List.getElem_toArray, List.getElem_cons_zero, List.getElem_cons_succ] at k0 k1 k6
  clear h
  go_enter Try.func54, Try.ntmps54
  go_wp2_with fail
  refine wp_region_noPanic ?_
  refine wp_region_held_drew (S := fun w' => Ext (fun q => q = g) w w') (by kernel_rfl) ((Ext.refl _ _).drew 1) (fun hHeld => ?_)
  generalize w.drew = wD at hHeld k0 k1 k6 kf kl hHD ⊢
  refine wpAnyH_take (i := 0) (oi := { dst := some 4, op := Go.Op.move (Go.Operand.tmp 0), type := 59, pos := "l09_node.go:162", after := #[], guard := none }) (v := ?vl0_1) rfl (by kernel_rfl) (by kernel_rfl) (by kernel_rfl) (fun _ _ _ h => h) (Or.inl ⟨by rfl, ?hl0_1⟩) hHeld ?rl0_1
  case hl0_1 =>
    intro wS hSw
    (try dsimp only at hSw)
    go_simp
    try with_reducible rfl
  case rl0_1 =>
  simp only [Act.put, List.setIfInBounds_toArray, List.set_cons_zero, List.set_cons_succ]
  refine wpAnyH_take (i := 1) (oi := { dst := some 5, op := Go.Op.move (Go.Operand.tmp 0), type := 59, pos := "l09_node.go:162", after := #[], guard := none }) (v := ?vl1_2) rfl (by kernel_rfl) (by kernel_rfl) (by kernel_rfl) (fun _ _ _ h => h) (Or.inl ⟨by rfl, ?hl1_2⟩) hHeld ?rl1_2
  case hl1_2 =>
    intro wS hSw
    (try dsimp only at hSw)
    go_simp
    try with_reducible rfl
  case rl1_2 =>
  simp only [Act.put, List.setIfInBounds_toArray, List.set_cons_zero, List.set_cons_succ]
  refine wpAnyH_take (i := 2) (oi := { dst := some 6, op := Go.Op.nilCheck (Go.Operand.tmp 5), type := 0, pos := "l09_node.go:162", after := #[{ on := 1, ground := Go.Ground.data }], guard := none }) (v := ?vl2_3) rfl (by kernel_rfl) (by kernel_rfl) (by kernel_rfl) (fun _ _ _ h => h) (Or.inl ⟨by rfl, ?hl2_3⟩) hHeld ?rl2_3
  case hl2_3 =>
    intro wS hSw
    (try dsimp only at hSw)
    go_simp
    try with_reducible rfl
  case rl2_3 =>
  simp only [Act.put, List.setIfInBounds_toArray, List.set_cons_zero, List.set_cons_succ]
  refine wpAnyH_take (i := 3) (oi := { dst := some 7, op := Go.Op.fieldAddr 65 (Go.Operand.tmp 6) 5, type := 0, pos := "l09_node.go:162", after := #[{ on := 2, ground := Go.Ground.data }], guard := none }) (v := ?vl3_4) rfl (by kernel_rfl) (by kernel_rfl) (by kernel_rfl) (fun _ _ _ h => h) (Or.inl ⟨by rfl, ?hl3_4⟩) hHeld ?rl3_4
  case hl3_4 =>
    intro wS hSw
    (try dsimp only at hSw)
    go_simp
    try with_reducible rfl
  case rl3_4 =>
  simp only [Act.put, List.setIfInBounds_toArray, List.set_cons_zero, List.set_cons_succ]
  refine wpAnyH_take (i := 5) (oi := { dst := some 9, op := Go.Op.move (Go.Operand.tmp 1), type := 2, pos := "l09_node.go:162", after := #[], guard := none }) (v := ?vl5_5) rfl (by kernel_rfl) (by kernel_rfl) (by kernel_rfl) (fun _ _ _ h => h) (Or.inl ⟨by rfl, ?hl5_5⟩) hHeld ?rl5_5
  case hl5_5 =>
    intro wS hSw
    (try dsimp only at hSw)
    go_simp
    try with_reducible rfl
  case rl5_5 =>
  simp only [Act.put, List.setIfInBounds_toArray, List.set_cons_zero, List.set_cons_succ]
  refine wpAnyH_take (i := 6) (oi := { dst := some 10, op := Go.Op.move (Go.Operand.tmp 0), type := 59, pos := "l09_node.go:162", after := #[], guard := none }) (v := ?vl6_6) rfl (by kernel_rfl) (by kernel_rfl) (by kernel_rfl) (fun _ _ _ h => h) (Or.inl ⟨by rfl, ?hl6_6⟩) hHeld ?rl6_6
  case hl6_6 =>
    intro wS hSw
    (try dsimp only at hSw)
    go_simp
    try with_reducible rfl
  case rl6_6 =>
  simp only [Act.put, List.setIfInBounds_toArray, List.set_cons_zero, List.set_cons_succ]
  refine wpAnyH_take (i := 7) (oi := { dst := some 11, op := Go.Op.nilCheck (Go.Operand.tmp 10), type := 0, pos := "l09_node.go:162", after := #[{ on := 6, ground := Go.Ground.data }], guard := none }) (v := ?vl7_7) rfl (by kernel_rfl) (by kernel_rfl) (by kernel_rfl) (fun _ _ _ h => h) (Or.inl ⟨by rfl, ?hl7_7⟩) hHeld ?rl7_7
  case hl7_7 =>
    intro wS hSw
    (try dsimp only at hSw)
    go_simp
    try with_reducible rfl
  case rl7_7 =>
  simp only [Act.put, List.setIfInBounds_toArray, List.set_cons_zero, List.set_cons_succ]
  refine wpAnyH_take (i := 8) (oi := { dst := some 12, op := Go.Op.fieldAddr 65 (Go.Operand.tmp 11) 0, type := 0, pos := "l09_node.go:162", after := #[{ on := 7, ground := Go.Ground.data }], guard := none }) (v := ?vl8_8) rfl (by kernel_rfl) (by kernel_rfl) (by kernel_rfl) (fun _ _ _ h => h) (Or.inl ⟨by rfl, ?hl8_8⟩) hHeld ?rl8_8
  case hl8_8 =>
    intro wS hSw
    (try dsimp only at hSw)
    go_simp
    try with_reducible rfl
  case rl8_8 =>
  simp only [Act.put, List.setIfInBounds_toArray, List.set_cons_zero, List.set_cons_succ]
  refine wpAnyH_take (i := 9) (oi := { dst := some 13, op := Go.Op.fieldAddr 63 (Go.Operand.tmp 12) 1, type := 0, pos := "l09_node.go:162", after := #[{ on := 8, ground := Go.Ground.data }], guard := none }) (v := ?vl9_9) rfl (by kernel_rfl) (by kernel_rfl) (by kernel_rfl) (fun _ _ _ h => h) (Or.inl ⟨by rfl, ?hl9_9⟩) hHeld ?rl9_9
  case hl9_9 =>
    intro wS hSw
    (try dsimp only at hSw)
    go_simp
    try with_reducible rfl
  case rl9_9 =>
  simp only [Act.put, List.setIfInBounds_toArray, List.set_cons_zero, List.set_cons_succ]
  refine wpAnyH_ready (rs := [4, 10]) (by kernel_rfl) (by simp) ?_
  refine AllReadyH.cons (o := { dst := some 8, op := Go.Op.load 2 (Go.Operand.tmp 7), type := 2, pos := "l09_node.go:162", after := #[{ on := 3, ground := Go.Ground.data }], guard := none }) rfl (fun K hK => ?ol4_10) (AllReadyH.cons (o := { dst := some 14, op := Go.Op.load 2 (Go.Operand.tmp 13), type := 2, pos := "l09_node.go:162", after := #[{ on := 9, ground := Go.Ground.data }], guard := none }) rfl (fun K hK => ?ol10_10) (AllReadyH.nil))
  case ol4_10 =>
    go_simp
    refine hK.out _ _ hHeld (fun hHeld => ?_)
    clear hK K
    try simp only [Act.put, List.setIfInBounds_toArray, List.set_cons_zero, List.set_cons_succ]
    refine wpAnyH_ready (rs := [10]) (by kernel_rfl) (by simp) ?_
    refine AllReadyH.cons (o := { dst := some 14, op := Go.Op.load 2 (Go.Operand.tmp 13), type := 2, pos := "l09_node.go:162", after := #[{ on := 9, ground := Go.Ground.data }], guard := none }) rfl (fun K hK => ?_) AllReadyH.nil
    go_simp
    refine hK.out _ _ hHeld (fun hHeld => ?_)
    clear hK K
    try simp only [Act.put, List.setIfInBounds_toArray, List.set_cons_zero, List.set_cons_succ]
    refine wpAnyH_take (i := 11) (oi := { dst := some 15, op := Go.Op.call { callee := Go.Callee.builtin Go.Builtin.min, args := #[Go.Operand.tmp 9, Go.Operand.tmp 14], argTypes := #[2, 2] }, type := 2, pos := "l09_node.go:162", after := #[{ on := 5, ground := Go.Ground.data }, { on := 10, ground := Go.Ground.data }], guard := none }) (v := ?vl11_11) rfl (by kernel_rfl) (by kernel_rfl) (by kernel_rfl) (fun _ _ _ h => h) (Or.inl ⟨by rfl, ?hl11_11⟩) hHeld ?rl11_11
    case hl11_11 =>
      intro wS hSw
      (try dsimp only at hSw)
      go_simp
      try with_reducible rfl
    case rl11_11 =>
    simp only [Act.put, List.setIfInBounds_toArray, List.set_cons_zero, List.set_cons_succ]
    refine wpAnyH_take (i := 12) (oi := { dst := some 16, op := Go.Op.call { callee := Go.Callee.builtin Go.Builtin.max, args := #[Go.Operand.tmp 8, Go.Operand.tmp 15], argTypes := #[2, 2] }, type := 2, pos := "l09_node.go:162", after := #[{ on := 4, ground := Go.Ground.data }, { on := 11, ground := Go.Ground.data }], guard := none }) (v := ?vl12_12) rfl (by kernel_rfl) (by kernel_rfl) (by kernel_rfl) (fun _ _ _ h => h) (Or.inl ⟨by rfl, ?hl12_12⟩) hHeld ?rl12_12
    case hl12_12 =>
      intro wS hSw
      (try dsimp only at hSw)
      go_simp
      try with_reducible rfl
    case rl12_12 =>
    simp only [Act.put, List.setIfInBounds_toArray, List.set_cons_zero, List.set_cons_succ]
    refine wpAnyH_take (i := 13) (oi := { dst := some 17, op := Go.Op.nilCheck (Go.Operand.tmp 4), type := 0, pos := "l09_node.go:162", after := #[{ on := 0, ground := Go.Ground.data }, { on := 0, ground := Go.Ground.phase }, { on := 1, ground := Go.Ground.phase }, { on := 2, ground := Go.Ground.phase }, { on := 3, ground := Go.Ground.phase }, { on := 4, ground := Go.Ground.phase }, { on := 5, ground := Go.Ground.phase }, { on := 6, ground := Go.Ground.phase }, { on := 7, ground := Go.Ground.phase }, { on := 8, ground := Go.Ground.phase }, { on := 9, ground := Go.Ground.phase }, { on := 10, ground := Go.Ground.phase }, { on := 11, ground := Go.Ground.phase }, { on := 12, ground := Go.Ground.phase }], guard := none }) (v := ?vl13_13) rfl (by kernel_rfl) (by kernel_rfl) (by kernel_rfl) (fun _ _ _ h => h) (Or.inl ⟨by rfl, ?hl13_13⟩) hHeld ?rl13_13
    case hl13_13 =>
      intro wS hSw
      (try dsimp only at hSw)
      go_simp
      try with_reducible rfl
    case rl13_13 =>
    simp only [Act.put, List.setIfInBounds_toArray, List.set_cons_zero, List.set_cons_succ]
    refine wpAnyH_take (i := 14) (oi := { dst := some 18, op := Go.Op.fieldAddr 65 (Go.Operand.tmp 17) 5, type := 0, pos := "l09_node.go:162", after := #[{ on := 13, ground := Go.Ground.data }, { on := 0, ground := Go.Ground.phase }, { on := 1, ground := Go.Ground.phase }, { on := 2, ground := Go.Ground.phase }, { on := 3, ground := Go.Ground.phase }, { on := 4, ground := Go.Ground.phase }, { on := 5, ground := Go.Ground.phase }, { on := 6, ground := Go.Ground.phase }, { on := 7, ground := Go.Ground.phase }, { on := 8, ground := Go.Ground.phase }, { on := 9, ground := Go.Ground.phase }, { on := 10, ground := Go.Ground.phase }, { on := 11, ground := Go.Ground.phase }, { on := 12, ground := Go.Ground.phase }], guard := none }) (v := ?vl14_14) rfl (by kernel_rfl) (by kernel_rfl) (by kernel_rfl) (fun _ _ _ h => h) (Or.inl ⟨by rfl, ?hl14_14⟩) hHeld ?rl14_14
    case hl14_14 =>
      intro wS hSw
      (try dsimp only at hSw)
      go_simp
      try with_reducible rfl
    case rl14_14 =>
    simp only [Act.put, List.setIfInBounds_toArray, List.set_cons_zero, List.set_cons_succ]
    refine wpAnyH_ready (rs := [15]) (by kernel_rfl) (by simp) ?_
    refine AllReadyH.cons (o := { dst := none, op := Go.Op.store 2 (Go.Operand.tmp 18) (Go.Operand.tmp 16), type := 0, pos := "l09_node.go:162", after := #[{ on := 14, ground := Go.Ground.data }, { on := 12, ground := Go.Ground.data }, { on := 0, ground := Go.Ground.phase }, { on := 1, ground := Go.Ground.phase }, { on := 2, ground := Go.Ground.phase }, { on := 3, ground := Go.Ground.phase }, { on := 4, ground := Go.Ground.phase }, { on := 5, ground := Go.Ground.phase }, { on := 6, ground := Go.Ground.phase }, { on := 7, ground := Go.Ground.phase }, { on := 8, ground := Go.Ground.phase }, { on := 9, ground := Go.Ground.phase }, { on := 10, ground := Go.Ground.phase }, { on := 11, ground := Go.Ground.phase }, { on := 12, ground := Go.Ground.phase }], guard := none }) rfl (fun K hK => ?_) AllReadyH.nil
    go_simp
    refine hK.out _ _ (hHeld.setCell ⟨g, 6, none⟩ _ rfl) (fun hHeld => ?_)
    clear hK K
    try simp only [Act.put, List.setIfInBounds_toArray, List.set_cons_zero, List.set_cons_succ]
    refine wpAnyH_done (by kernel_rfl) ?_ _
    refine NoPanic.normal ?_
    have HE := hide hHeld
    have HH := hide (Box.set hHD 6 (.int .i64 (max x.clean (min i x.sure))))
    clear hHeld hHD
    rw [learn_val] at HE ⊢
    generalize (if x.sure < i then x.sure else i) = mn
    go_wp2_with fail
    refine bodyPost_end (v := .tuple #[]) (by simp [results, Try.results54, go_sem]) rfl ?_
    exact ⟨rfl, unhide HH, unhide HE⟩
  case ol10_10 =>
    go_simp
    refine hK.out _ _ hHeld (fun hHeld => ?_)
    clear hK K
    try simp only [Act.put, List.setIfInBounds_toArray, List.set_cons_zero, List.set_cons_succ]
    refine wpAnyH_take (i := 11) (oi := { dst := some 15, op := Go.Op.call { callee := Go.Callee.builtin Go.Builtin.min, args := #[Go.Operand.tmp 9, Go.Operand.tmp 14], argTypes := #[2, 2] }, type := 2, pos := "l09_node.go:162", after := #[{ on := 5, ground := Go.Ground.data }, { on := 10, ground := Go.Ground.data }], guard := none }) (v := ?vl11_15) rfl (by kernel_rfl) (by kernel_rfl) (by kernel_rfl) (fun _ _ _ h => h) (Or.inl ⟨by rfl, ?hl11_15⟩) hHeld ?rl11_15
    case hl11_15 =>
      intro wS hSw
      (try dsimp only at hSw)
      go_simp
      try with_reducible rfl
    case rl11_15 =>
    simp only [Act.put, List.setIfInBounds_toArray, List.set_cons_zero, List.set_cons_succ]
    refine wpAnyH_ready (rs := [4]) (by kernel_rfl) (by simp) ?_
    refine AllReadyH.cons (o := { dst := some 8, op := Go.Op.load 2 (Go.Operand.tmp 7), type := 2, pos := "l09_node.go:162", after := #[{ on := 3, ground := Go.Ground.data }], guard := none }) rfl (fun K hK => ?_) AllReadyH.nil
    go_simp
    refine hK.out _ _ hHeld (fun hHeld => ?_)
    clear hK K
    try simp only [Act.put, List.setIfInBounds_toArray, List.set_cons_zero, List.set_cons_succ]
    refine wpAnyH_take (i := 12) (oi := { dst := some 16, op := Go.Op.call { callee := Go.Callee.builtin Go.Builtin.max, args := #[Go.Operand.tmp 8, Go.Operand.tmp 15], argTypes := #[2, 2] }, type := 2, pos := "l09_node.go:162", after := #[{ on := 4, ground := Go.Ground.data }, { on := 11, ground := Go.Ground.data }], guard := none }) (v := ?vl12_16) rfl (by kernel_rfl) (by kernel_rfl) (by kernel_rfl) (fun _ _ _ h => h) (Or.inl ⟨by rfl, ?hl12_16⟩) hHeld ?rl12_16
    case hl12_16 =>
      intro wS hSw
      (try dsimp only at hSw)
      go_simp
      try with_reducible rfl
    case rl12_16 =>
    simp only [Act.put, List.setIfInBounds_toArray, List.set_cons_zero, List.set_cons_succ]
    refine wpAnyH_take (i := 13) (oi := { dst := some 17, op := Go.Op.nilCheck (Go.Operand.tmp 4), type := 0, pos := "l09_node.go:162", after := #[{ on := 0, ground := Go.Ground.data }, { on := 0, ground := Go.Ground.phase }, { on := 1, ground := Go.Ground.phase }, { on := 2, ground := Go.Ground.phase }, { on := 3, ground := Go.Ground.phase }, { on := 4, ground := Go.Ground.phase }, { on := 5, ground := Go.Ground.phase }, { on := 6, ground := Go.Ground.phase }, { on := 7, ground := Go.Ground.phase }, { on := 8, ground := Go.Ground.phase }, { on := 9, ground := Go.Ground.phase }, { on := 10, ground := Go.Ground.phase }, { on := 11, ground := Go.Ground.phase }, { on := 12, ground := Go.Ground.phase }], guard := none }) (v := ?vl13_17) rfl (by kernel_rfl) (by kernel_rfl) (by kernel_rfl) (fun _ _ _ h => h) (Or.inl ⟨by rfl, ?hl13_17⟩) hHeld ?rl13_17
    case hl13_17 =>
      intro wS hSw
      (try dsimp only at hSw)
      go_simp
      try with_reducible rfl
    case rl13_17 =>
    simp only [Act.put, List.setIfInBounds_toArray, List.set_cons_zero, List.set_cons_succ]
    refine wpAnyH_take (i := 14) (oi := { dst := some 18, op := Go.Op.fieldAddr 65 (Go.Operand.tmp 17) 5, type := 0, pos := "l09_node.go:162", after := #[{ on := 13, ground := Go.Ground.data }, { on := 0, ground := Go.Ground.phase }, { on := 1, ground := Go.Ground.phase }, { on := 2, ground := Go.Ground.phase }, { on := 3, ground := Go.Ground.phase }, { on := 4, ground := Go.Ground.phase }, { on := 5, ground := Go.Ground.phase }, { on := 6, ground := Go.Ground.phase }, { on := 7, ground := Go.Ground.phase }, { on := 8, ground := Go.Ground.phase }, { on := 9, ground := Go.Ground.phase }, { on := 10, ground := Go.Ground.phase }, { on := 11, ground := Go.Ground.phase }, { on := 12, ground := Go.Ground.phase }], guard := none }) (v := ?vl14_18) rfl (by kernel_rfl) (by kernel_rfl) (by kernel_rfl) (fun _ _ _ h => h) (Or.inl ⟨by rfl, ?hl14_18⟩) hHeld ?rl14_18
    case hl14_18 =>
      intro wS hSw
      (try dsimp only at hSw)
      go_simp
      try with_reducible rfl
    case rl14_18 =>
    simp only [Act.put, List.setIfInBounds_toArray, List.set_cons_zero, List.set_cons_succ]
    refine wpAnyH_ready (rs := [15]) (by kernel_rfl) (by simp) ?_
    refine AllReadyH.cons (o := { dst := none, op := Go.Op.store 2 (Go.Operand.tmp 18) (Go.Operand.tmp 16), type := 0, pos := "l09_node.go:162", after := #[{ on := 14, ground := Go.Ground.data }, { on := 12, ground := Go.Ground.data }, { on := 0, ground := Go.Ground.phase }, { on := 1, ground := Go.Ground.phase }, { on := 2, ground := Go.Ground.phase }, { on := 3, ground := Go.Ground.phase }, { on := 4, ground := Go.Ground.phase }, { on := 5, ground := Go.Ground.phase }, { on := 6, ground := Go.Ground.phase }, { on := 7, ground := Go.Ground.phase }, { on := 8, ground := Go.Ground.phase }, { on := 9, ground := Go.Ground.phase }, { on := 10, ground := Go.Ground.phase }, { on := 11, ground := Go.Ground.phase }, { on := 12, ground := Go.Ground.phase }], guard := none }) rfl (fun K hK => ?_) AllReadyH.nil
    go_simp
    refine hK.out _ _ (hHeld.setCell ⟨g, 6, none⟩ _ rfl) (fun hHeld => ?_)
    clear hK K
    try simp only [Act.put, List.setIfInBounds_toArray, List.set_cons_zero, List.set_cons_succ]
    refine wpAnyH_done (by kernel_rfl) ?_ _
    refine NoPanic.normal ?_
    have HE := hide hHeld
    have HH := hide (Box.set hHD 6 (.int .i64 (max x.clean (min i x.sure))))
    clear hHeld hHD
    rw [learn_val] at HE ⊢
    generalize (if x.sure < i then x.sure else i) = mn
    go_wp2_with fail
    refine bodyPost_end (v := .tuple #[]) (by simp [results, Try.results54, go_sem]) rfl ?_
    exact ⟨rfl, unhide HH, unhide HE⟩
set_option maxRecDepth 10000 in
set_option maxHeartbeats 2000000 in
theorem tearC (g gw n s k t : Nat) (x : DNode) (w : World) (h : HeldAt w g (.slice (some ⟨gw, 0, none⟩) n n) ⟨x.id, x.up, x.epoch, x.lease, x.writes, (s : Int), x.clean⟩) (h1 : t ≤ s + k) (h2 : s + k ≤ t) (hk : t ≤ n) (hn : n ≤ 1000) :
    Calls Try.prog 76 #[.pointer (some ⟨g, 0, none⟩), .int .i64 (k : Int)] w fun e w' => e = .returned (.tuple #[]) ∧ HeldAt w' g (.slice (some ⟨gw, 0, none⟩) t n) ⟨x.id, x.up, x.epoch, x.lease, x.writes, (t : Int), x.clean⟩ ∧ Ext (fun q => q = g) w w' := by
  have hHD : HeldAt w.drew g (.slice (some ⟨gw, 0, none⟩) n n) ⟨x.id, x.up, x.epoch, x.lease, x.writes, (s : Int), x.clean⟩ := h
  have k0 := Box.at hHD 0 _ rfl
  have k1 := Box.at hHD 1 _ rfl
  have k6 := Box.at hHD 6 _ rfl
  have kf := Box.soft hHD
  have kl := Box.lt hHD
  simp only [List.getElem_toArray, List.getElem_cons_zero, List.getElem_cons_succ] at k0 k1 k6
  clear h
  go_enter Try.func76, Try.ntmps76
  go_wp2_with fail
  refine wp_region_noPanic ?_
  refine wp_region_held_drew (S := fun w' => Ext (fun q => q = g) w w') (by kernel_rfl) ((Ext.refl _ _).drew 1) (fun hHeld => ?_)
  generalize w.drew = wD at hHeld k0 k1 k6 kf kl hHD ⊢
  refine wpAnyH_take (i := 0) (oi := { dst := some 4, op := Go.Op.move (Go.Operand.tmp 0), type := 88, pos := "l09_node.go:60", after := #[], guard := none }) (v := ?vr0_1) rfl (by kernel_rfl) (by kernel_rfl) (by kernel_rfl) (fun _ _ _ h => h) (Or.inl ⟨by rfl, ?hr0_1⟩) hHeld ?rr0_1
  case hr0_1 =>
    intro wS hSw
    (try dsimp only at hSw)
    go_simp
    try with_reducible rfl
  case rr0_1 =>
  simp only [Act.put, List.setIfInBounds_toArray, List.set_cons_zero, List.set_cons_succ]
  refine wpAnyH_take (i := 1) (oi := { dst := some 5, op := Go.Op.move (Go.Operand.tmp 0), type := 88, pos := "l09_node.go:60", after := #[], guard := none }) (v := ?vr1_2) rfl (by kernel_rfl) (by kernel_rfl) (by kernel_rfl) (fun _ _ _ h => h) (Or.inl ⟨by rfl, ?hr1_2⟩) hHeld ?rr1_2
  case hr1_2 =>
    intro wS hSw
    (try dsimp only at hSw)
    go_simp
    try with_reducible rfl
  case rr1_2 =>
  simp only [Act.put, List.setIfInBounds_toArray, List.set_cons_zero, List.set_cons_succ]
  refine wpAnyH_take (i := 2) (oi := { dst := some 6, op := Go.Op.nilCheck (Go.Operand.tmp 5), type := 0, pos := "l09_node.go:60", after := #[{ on := 1, ground := Go.Ground.data }], guard := none }) (v := ?vr2_3) rfl (by kernel_rfl) (by kernel_rfl) (by kernel_rfl) (fun _ _ _ h => h) (Or.inl ⟨by rfl, ?hr2_3⟩) hHeld ?rr2_3
  case hr2_3 =>
    intro wS hSw
    (try dsimp only at hSw)
    go_simp
    try with_reducible rfl
  case rr2_3 =>
  simp only [Act.put, List.setIfInBounds_toArray, List.set_cons_zero, List.set_cons_succ]
  refine wpAnyH_take (i := 3) (oi := { dst := some 7, op := Go.Op.fieldAddr 63 (Go.Operand.tmp 6) 0, type := 0, pos := "l09_node.go:60", after := #[{ on := 2, ground := Go.Ground.data }], guard := none }) (v := ?vr3_4) rfl (by kernel_rfl) (by kernel_rfl) (by kernel_rfl) (fun _ _ _ h => h) (Or.inl ⟨by rfl, ?hr3_4⟩) hHeld ?rr3_4
  case hr3_4 =>
    intro wS hSw
    (try dsimp only at hSw)
    go_simp
    try with_reducible rfl
  case rr3_4 =>
  simp only [Act.put, List.setIfInBounds_toArray, List.set_cons_zero, List.set_cons_succ]
  refine wpAnyH_take (i := 5) (oi := { dst := some 9, op := Go.Op.move (Go.Operand.tmp 0), type := 88, pos := "l09_node.go:60", after := #[], guard := none }) (v := ?vr5_5) rfl (by kernel_rfl) (by kernel_rfl) (by kernel_rfl) (fun _ _ _ h => h) (Or.inl ⟨by rfl, ?hr5_5⟩) hHeld ?rr5_5
  case hr5_5 =>
    intro wS hSw
    (try dsimp only at hSw)
    go_simp
    try with_reducible rfl
  case rr5_5 =>
  simp only [Act.put, List.setIfInBounds_toArray, List.set_cons_zero, List.set_cons_succ]
  refine wpAnyH_take (i := 6) (oi := { dst := some 10, op := Go.Op.nilCheck (Go.Operand.tmp 9), type := 0, pos := "l09_node.go:60", after := #[{ on := 5, ground := Go.Ground.data }], guard := none }) (v := ?vr6_6) rfl (by kernel_rfl) (by kernel_rfl) (by kernel_rfl) (fun _ _ _ h => h) (Or.inl ⟨by rfl, ?hr6_6⟩) hHeld ?rr6_6
  case hr6_6 =>
    intro wS hSw
    (try dsimp only at hSw)
    go_simp
    try with_reducible rfl
  case rr6_6 =>
  simp only [Act.put, List.setIfInBounds_toArray, List.set_cons_zero, List.set_cons_succ]
  refine wpAnyH_take (i := 7) (oi := { dst := some 11, op := Go.Op.fieldAddr 63 (Go.Operand.tmp 10) 1, type := 0, pos := "l09_node.go:60", after := #[{ on := 6, ground := Go.Ground.data }], guard := none }) (v := ?vr7_7) rfl (by kernel_rfl) (by kernel_rfl) (by kernel_rfl) (fun _ _ _ h => h) (Or.inl ⟨by rfl, ?hr7_7⟩) hHeld ?rr7_7
  case hr7_7 =>
    intro wS hSw
    (try dsimp only at hSw)
    go_simp
    try with_reducible rfl
  case rr7_7 =>
  simp only [Act.put, List.setIfInBounds_toArray, List.set_cons_zero, List.set_cons_succ]
  refine wpAnyH_take (i := 9) (oi := { dst := some 13, op := Go.Op.move (Go.Operand.tmp 1), type := 2, pos := "l09_node.go:60", after := #[], guard := none }) (v := ?vr9_8) rfl (by kernel_rfl) (by kernel_rfl) (by kernel_rfl) (fun _ _ _ h => h) (Or.inl ⟨by rfl, ?hr9_8⟩) hHeld ?rr9_8
  case hr9_8 =>
    intro wS hSw
    (try dsimp only at hSw)
    go_simp
    try with_reducible rfl
  case rr9_8 =>
  simp only [Act.put, List.setIfInBounds_toArray, List.set_cons_zero, List.set_cons_succ]
  refine wpAnyH_ready (rs := [4, 8]) (by kernel_rfl) (by simp) ?_
  refine AllReadyH.cons (o := { dst := some 8, op := Go.Op.load 27 (Go.Operand.tmp 7), type := 27, pos := "l09_node.go:60", after := #[{ on := 3, ground := Go.Ground.data }], guard := none }) rfl (fun K hK => ?or4_9) (AllReadyH.cons (o := { dst := some 12, op := Go.Op.load 2 (Go.Operand.tmp 11), type := 2, pos := "l09_node.go:60", after := #[{ on := 7, ground := Go.Ground.data }], guard := none }) rfl (fun K hK => ?or8_9) (AllReadyH.nil))
  case or4_9 =>
    go_simp
    refine hK.out _ _ hHeld (fun hHeld => ?_)
    clear hK K
    try simp only [Act.put, List.setIfInBounds_toArray, List.set_cons_zero, List.set_cons_succ]
    refine wpAnyH_ready (rs := [8]) (by kernel_rfl) (by simp) ?_
    refine AllReadyH.cons (o := { dst := some 12, op := Go.Op.load 2 (Go.Operand.tmp 11), type := 2, pos := "l09_node.go:60", after := #[{ on := 7, ground := Go.Ground.data }], guard := none }) rfl (fun K hK => ?_) AllReadyH.nil
    go_simp
    refine hK.out _ _ hHeld (fun hHeld => ?_)
    clear hK K
    try simp only [Act.put, List.setIfInBounds_toArray, List.set_cons_zero, List.set_cons_succ]
    refine wpAnyH_take (i := 10) (oi := { dst := some 14, op := Go.Op.binOp Go.BinOp.add 2 (Go.Operand.tmp 12) (Go.Operand.tmp 13) 2, type := 2, pos := "l09_node.go:60", after := #[{ on := 8, ground := Go.Ground.data }, { on := 9, ground := Go.Ground.data }], guard := none }) (v := ?vr10_10) rfl (by kernel_rfl) (by kernel_rfl) (by kernel_rfl) (fun _ _ _ h => h) (Or.inl ⟨by rfl, ?hr10_10⟩) hHeld ?rr10_10
    case hr10_10 =>
      intro wS hSw
      have hst : (s : Int) + (k : Int) = (t : Int) := by omega
      have hwr : IntKind.i64.wrap (t : Int) = (t : Int) := by rw [IntKind.wrap_i64]; omega
      (try dsimp only at hSw)
      go_simp
      try with_reducible rfl
    case rr10_10 =>
    simp only [Act.put, List.setIfInBounds_toArray, List.set_cons_zero, List.set_cons_succ]
    refine wpAnyH_take (i := 11) (oi := { dst := some 15, op := Go.Op.slice 27 (Go.Operand.tmp 8) none (some (Go.Operand.tmp 14)) none, type := 27, pos := "l09_node.go:60", after := #[{ on := 4, ground := Go.Ground.data }, { on := 10, ground := Go.Ground.data }], guard := none }) (v := ?vr11_11) rfl (by kernel_rfl) (by kernel_rfl) (by kernel_rfl) (fun _ _ _ h => h) (Or.inl ⟨by rfl, ?hr11_11⟩) hHeld ?rr11_11
    case hr11_11 =>
      intro wS hSw
      have hst : (s : Int) + (k : Int) = (t : Int) := by omega
      have hwr : IntKind.i64.wrap (t : Int) = (t : Int) := by rw [IntKind.wrap_i64]; omega
      (try dsimp only at hSw)
      go_simp
      try with_reducible rfl
    case rr11_11 =>
    simp only [Act.put, List.setIfInBounds_toArray, List.set_cons_zero, List.set_cons_succ]
    refine wpAnyH_take (i := 12) (oi := { dst := some 16, op := Go.Op.nilCheck (Go.Operand.tmp 4), type := 0, pos := "l09_node.go:60", after := #[{ on := 0, ground := Go.Ground.data }, { on := 0, ground := Go.Ground.phase }, { on := 1, ground := Go.Ground.phase }, { on := 2, ground := Go.Ground.phase }, { on := 3, ground := Go.Ground.phase }, { on := 4, ground := Go.Ground.phase }, { on := 5, ground := Go.Ground.phase }, { on := 6, ground := Go.Ground.phase }, { on := 7, ground := Go.Ground.phase }, { on := 8, ground := Go.Ground.phase }, { on := 9, ground := Go.Ground.phase }, { on := 10, ground := Go.Ground.phase }, { on := 11, ground := Go.Ground.phase }], guard := none }) (v := ?vr12_12) rfl (by kernel_rfl) (by kernel_rfl) (by kernel_rfl) (fun _ _ _ h => h) (Or.inl ⟨by rfl, ?hr12_12⟩) hHeld ?rr12_12
    case hr12_12 =>
      intro wS hSw
      (try dsimp only at hSw)
      go_simp
      try with_reducible rfl
    case rr12_12 =>
    simp only [Act.put, List.setIfInBounds_toArray, List.set_cons_zero, List.set_cons_succ]
    refine wpAnyH_take (i := 13) (oi := { dst := some 17, op := Go.Op.fieldAddr 63 (Go.Operand.tmp 16) 0, type := 0, pos := "l09_node.go:60", after := #[{ on := 12, ground := Go.Ground.data }, { on := 0, ground := Go.Ground.phase }, { on := 1, ground := Go.Ground.phase }, { on := 2, ground := Go.Ground.phase }, { on := 3, ground := Go.Ground.phase }, { on := 4, ground := Go.Ground.phase }, { on := 5, ground := Go.Ground.phase }, { on := 6, ground := Go.Ground.phase }, { on := 7, ground := Go.Ground.phase }, { on := 8, ground := Go.Ground.phase }, { on := 9, ground := Go.Ground.phase }, { on := 10, ground := Go.Ground.phase }, { on := 11, ground := Go.Ground.phase }], guard := none }) (v := ?vr13_13) rfl (by kernel_rfl) (by kernel_rfl) (by kernel_rfl) (fun _ _ _ h => h) (Or.inl ⟨by rfl, ?hr13_13⟩) hHeld ?rr13_13
    case hr13_13 =>
      intro wS hSw
      (try dsimp only at hSw)
      go_simp
      try with_reducible rfl
    case rr13_13 =>
    simp only [Act.put, List.setIfInBounds_toArray, List.set_cons_zero, List.set_cons_succ]
    refine wpAnyH_ready (rs := [14]) (by kernel_rfl) (by simp) ?_
    refine AllReadyH.cons (o := { dst := none, op := Go.Op.store 27 (Go.Operand.tmp 17) (Go.Operand.tmp 15), type := 0, pos := "l09_node.go:60", after := #[{ on := 13, ground := Go.Ground.data }, { on := 11, ground := Go.Ground.data }, { on := 0, ground := Go.Ground.phase }, { on := 1, ground := Go.Ground.phase }, { on := 2, ground := Go.Ground.phase }, { on := 3, ground := Go.Ground.phase }, { on := 4, ground := Go.Ground.phase }, { on := 5, ground := Go.Ground.phase }, { on := 6, ground := Go.Ground.phase }, { on := 7, ground := Go.Ground.phase }, { on := 8, ground := Go.Ground.phase }, { on := 9, ground := Go.Ground.phase }, { on := 10, ground := Go.Ground.phase }, { on := 11, ground := Go.Ground.phase }], guard := none }) rfl (fun K hK => ?_) AllReadyH.nil
    go_simp
    refine hK.out _ _ (hHeld.setCell ⟨g, 0, none⟩ _ rfl) (fun hHeld => ?_)
    clear hK K
    try simp only [Act.put, List.setIfInBounds_toArray, List.set_cons_zero, List.set_cons_succ]
    refine wpAnyH_done (by kernel_rfl) ?_ _
    refine NoPanic.normal ?_
    have HE := hide hHeld
    have HL := hide (syncC g (some ⟨gw, 0, none⟩) t n ⟨x.id, x.up, x.epoch, x.lease, x.writes, (s : Int), x.clean⟩ (wD.setCell ⟨g, 0, none⟩ (.slice (some ⟨gw, 0, none⟩) t n)) (Box.set hHD 0 (.slice (some ⟨gw, 0, none⟩) t n)))
    clear hHeld hHD k0 k1 k6 kf kl
    go_wp2_with fail
    refine (unhide HL).mono ?_
    rintro e w3 ⟨rfl, hH3, hE3⟩
    have HE3 := hide ((unhide HE).trans hE3)
    have HH3 := hide hH3
    clear hH3 hE3 HL HE
    go_wp2_with fail
    refine bodyPost_end (v := .tuple #[]) (by simp [results, Try.results76, go_sem]) rfl ?_
    exact ⟨rfl, unhide HH3, unhide HE3⟩
  case or8_9 =>
    go_simp
    refine hK.out _ _ hHeld (fun hHeld => ?_)
    clear hK K
    try simp only [Act.put, List.setIfInBounds_toArray, List.set_cons_zero, List.set_cons_succ]
    refine wpAnyH_take (i := 10) (oi := { dst := some 14, op := Go.Op.binOp Go.BinOp.add 2 (Go.Operand.tmp 12) (Go.Operand.tmp 13) 2, type := 2, pos := "l09_node.go:60", after := #[{ on := 8, ground := Go.Ground.data }, { on := 9, ground := Go.Ground.data }], guard := none }) (v := ?vr10_14) rfl (by kernel_rfl) (by kernel_rfl) (by kernel_rfl) (fun _ _ _ h => h) (Or.inl ⟨by rfl, ?hr10_14⟩) hHeld ?rr10_14
    case hr10_14 =>
      intro wS hSw
      have hst : (s : Int) + (k : Int) = (t : Int) := by omega
      have hwr : IntKind.i64.wrap (t : Int) = (t : Int) := by rw [IntKind.wrap_i64]; omega
      (try dsimp only at hSw)
      go_simp
      try with_reducible rfl
    case rr10_14 =>
    simp only [Act.put, List.setIfInBounds_toArray, List.set_cons_zero, List.set_cons_succ]
    refine wpAnyH_ready (rs := [4]) (by kernel_rfl) (by simp) ?_
    refine AllReadyH.cons (o := { dst := some 8, op := Go.Op.load 27 (Go.Operand.tmp 7), type := 27, pos := "l09_node.go:60", after := #[{ on := 3, ground := Go.Ground.data }], guard := none }) rfl (fun K hK => ?_) AllReadyH.nil
    go_simp
    refine hK.out _ _ hHeld (fun hHeld => ?_)
    clear hK K
    try simp only [Act.put, List.setIfInBounds_toArray, List.set_cons_zero, List.set_cons_succ]
    refine wpAnyH_take (i := 11) (oi := { dst := some 15, op := Go.Op.slice 27 (Go.Operand.tmp 8) none (some (Go.Operand.tmp 14)) none, type := 27, pos := "l09_node.go:60", after := #[{ on := 4, ground := Go.Ground.data }, { on := 10, ground := Go.Ground.data }], guard := none }) (v := ?vr11_15) rfl (by kernel_rfl) (by kernel_rfl) (by kernel_rfl) (fun _ _ _ h => h) (Or.inl ⟨by rfl, ?hr11_15⟩) hHeld ?rr11_15
    case hr11_15 =>
      intro wS hSw
      have hst : (s : Int) + (k : Int) = (t : Int) := by omega
      have hwr : IntKind.i64.wrap (t : Int) = (t : Int) := by rw [IntKind.wrap_i64]; omega
      (try dsimp only at hSw)
      go_simp
      try with_reducible rfl
    case rr11_15 =>
    simp only [Act.put, List.setIfInBounds_toArray, List.set_cons_zero, List.set_cons_succ]
    refine wpAnyH_take (i := 12) (oi := { dst := some 16, op := Go.Op.nilCheck (Go.Operand.tmp 4), type := 0, pos := "l09_node.go:60", after := #[{ on := 0, ground := Go.Ground.data }, { on := 0, ground := Go.Ground.phase }, { on := 1, ground := Go.Ground.phase }, { on := 2, ground := Go.Ground.phase }, { on := 3, ground := Go.Ground.phase }, { on := 4, ground := Go.Ground.phase }, { on := 5, ground := Go.Ground.phase }, { on := 6, ground := Go.Ground.phase }, { on := 7, ground := Go.Ground.phase }, { on := 8, ground := Go.Ground.phase }, { on := 9, ground := Go.Ground.phase }, { on := 10, ground := Go.Ground.phase }, { on := 11, ground := Go.Ground.phase }], guard := none }) (v := ?vr12_16) rfl (by kernel_rfl) (by kernel_rfl) (by kernel_rfl) (fun _ _ _ h => h) (Or.inl ⟨by rfl, ?hr12_16⟩) hHeld ?rr12_16
    case hr12_16 =>
      intro wS hSw
      (try dsimp only at hSw)
      go_simp
      try with_reducible rfl
    case rr12_16 =>
    simp only [Act.put, List.setIfInBounds_toArray, List.set_cons_zero, List.set_cons_succ]
    refine wpAnyH_take (i := 13) (oi := { dst := some 17, op := Go.Op.fieldAddr 63 (Go.Operand.tmp 16) 0, type := 0, pos := "l09_node.go:60", after := #[{ on := 12, ground := Go.Ground.data }, { on := 0, ground := Go.Ground.phase }, { on := 1, ground := Go.Ground.phase }, { on := 2, ground := Go.Ground.phase }, { on := 3, ground := Go.Ground.phase }, { on := 4, ground := Go.Ground.phase }, { on := 5, ground := Go.Ground.phase }, { on := 6, ground := Go.Ground.phase }, { on := 7, ground := Go.Ground.phase }, { on := 8, ground := Go.Ground.phase }, { on := 9, ground := Go.Ground.phase }, { on := 10, ground := Go.Ground.phase }, { on := 11, ground := Go.Ground.phase }], guard := none }) (v := ?vr13_17) rfl (by kernel_rfl) (by kernel_rfl) (by kernel_rfl) (fun _ _ _ h => h) (Or.inl ⟨by rfl, ?hr13_17⟩) hHeld ?rr13_17
    case hr13_17 =>
      intro wS hSw
      (try dsimp only at hSw)
      go_simp
      try with_reducible rfl
    case rr13_17 =>
    simp only [Act.put, List.setIfInBounds_toArray, List.set_cons_zero, List.set_cons_succ]
    refine wpAnyH_ready (rs := [14]) (by kernel_rfl) (by simp) ?_
    refine AllReadyH.cons (o := { dst := none, op := Go.Op.store 27 (Go.Operand.tmp 17) (Go.Operand.tmp 15), type := 0, pos := "l09_node.go:60", after := #[{ on := 13, ground := Go.Ground.data }, { on := 11, ground := Go.Ground.data }, { on := 0, ground := Go.Ground.phase }, { on := 1, ground := Go.Ground.phase }, { on := 2, ground := Go.Ground.phase }, { on := 3, ground := Go.Ground.phase }, { on := 4, ground := Go.Ground.phase }, { on := 5, ground := Go.Ground.phase }, { on := 6, ground := Go.Ground.phase }, { on := 7, ground := Go.Ground.phase }, { on := 8, ground := Go.Ground.phase }, { on := 9, ground := Go.Ground.phase }, { on := 10, ground := Go.Ground.phase }, { on := 11, ground := Go.Ground.phase }], guard := none }) rfl (fun K hK => ?_) AllReadyH.nil
    go_simp
    refine hK.out _ _ (hHeld.setCell ⟨g, 0, none⟩ _ rfl) (fun hHeld => ?_)
    clear hK K
    try simp only [Act.put, List.setIfInBounds_toArray, List.set_cons_zero, List.set_cons_succ]
    refine wpAnyH_done (by kernel_rfl) ?_ _
    refine NoPanic.normal ?_
    have HE := hide hHeld
    have HL := hide (syncC g (some ⟨gw, 0, none⟩) t n ⟨x.id, x.up, x.epoch, x.lease, x.writes, (s : Int), x.clean⟩ (wD.setCell ⟨g, 0, none⟩ (.slice (some ⟨gw, 0, none⟩) t n)) (Box.set hHD 0 (.slice (some ⟨gw, 0, none⟩) t n)))
    clear hHeld hHD k0 k1 k6 kf kl
    go_wp2_with fail
    refine (unhide HL).mono ?_
    rintro e w3 ⟨rfl, hH3, hE3⟩
    have HE3 := hide ((unhide HE).trans hE3)
    have HH3 := hide hH3
    clear hH3 hE3 HL HE
    go_wp2_with fail
    refine bodyPost_end (v := .tuple #[]) (by simp [results, Try.results76, go_sem]) rfl ?_
    exact ⟨rfl, unhide HH3, unhide HE3⟩
set_option maxRecDepth 10000 in
set_option maxHeartbeats 2000000 in
theorem crashC (g gw n s k t : Nat) (x : DNode) (w : World) (h : HeldAt w g (.slice (some ⟨gw, 0, none⟩) n n) ⟨x.id, x.up, x.epoch, x.lease, x.writes, (s : Int), x.clean⟩) (h1 : t ≤ s + k) (h2 : s + k ≤ t) (hk : t ≤ n) (hn : n ≤ 1000) :
    Calls Try.prog 57 #[.pointer (some ⟨g, 0, none⟩), .int .i64 (k : Int)] w fun e w' => e = .returned (.tuple #[]) ∧ HeldAt w' g (.slice (some ⟨gw, 0, none⟩) t n) ⟨x.id, false, x.epoch, 0, x.writes, (t : Int), 0⟩ ∧ Ext (fun q => q = g) w w' := by
  have HL := hide (tearC g gw n s k t x w h h1 h2 hk hn)
  clear h
  go_enter Try.func57, Try.ntmps57
  go_wp2_with fail
  refine (unhide HL).mono ?_
  rintro e w3 ⟨rfl, hH3, hE3⟩
  have k3 := Box.at hH3 3 _ rfl
  have k5 := Box.at hH3 5 _ rfl
  have k6 := Box.at hH3 6 _ rfl
  have kf := Box.soft hH3
  have kl := Box.lt hH3
  simp only [List.getElem_toArray, List.getElem_cons_zero, List.getElem_cons_succ] at k3 k5 k6
  have HH9 : Hid (HeldAt (((w3.setCell ⟨g, 3, none⟩ (.bool false)).setCell ⟨g, 6, none⟩ (.int .i64 0)).setCell ⟨g, 5, none⟩ (.int .i64 0)) g (.slice (some ⟨gw, 0, none⟩) t n) ⟨x.id, false, x.epoch, 0, x.writes, (t : Int), 0⟩) := ((Box.set hH3 3 (.bool false)).set 6 (.int .i64 0)).set 5 (.int .i64 0)
  have HE9 : Hid (Ext (fun q => q = g) w (((w3.setCell ⟨g, 3, none⟩ (.bool false)).setCell ⟨g, 6, none⟩ (.int .i64 0)).setCell ⟨g, 5, none⟩ (.int .i64 0))) := ((hE3.setCell ⟨g, 3, none⟩ _ rfl).setCell ⟨g, 6, none⟩ _ rfl).setCell ⟨g, 5, none⟩ _ rfl
  clear hH3 hE3 HL
  go_wp2_with fail
  refine bodyPost_end (v := .tuple #[]) (by simp [results, Try.results57, go_sem]) rfl ?_
  exact ⟨rfl, unhide HH9, unhide HE9⟩
end Go.Proofs.Ytbogjepkdcknfaa

namespace Go.Proofs.Ytbogjepkdcknfaa
open Go.RowKit

theorem implId (v : Int) (w : World) :
    Calls Try.prog 98 #[.int .i64 v] w fun e w' => e = .returned (.bool (decide (1 ≤ v) && decide (v ≤ 999))) ∧ w' = w := by
  by_cases h1 : 1 ≤ v
  · have d1 : decide (1 ≤ v) = true := by simpa using h1
    rw [d1]
    cases d2 : decide (v ≤ 999) <;>
    · go_enter Try.func98, Try.ntmps98
      go_wp2_with fail
      go_ret
      exact ⟨rfl, rfl⟩
  · have d1 : decide (1 ≤ v) = false := by simpa using h1
    rw [d1]
    go_enter Try.func98, Try.ntmps98
    go_wp2_with fail
    go_ret
    exact ⟨rfl, rfl⟩

end Go.Proofs.Ytbogjepkdcknfaa

namespace Go.Proofs.Ytbogjepkdcknfaa
open Go.RowKit


end Go.Proofs.Ytbogjepkdcknfaa
