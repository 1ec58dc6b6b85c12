/-
  Texts of this proof in one: WrFault, WrZero, ImplDeed, ImplWrF, LayNetResult, LayIntResult, ApplyPlain, SessPlain, NetPlain, NetsPlain, ImplMsgF, AppStr, TextPlain, WTextPlain, ImplVerb.
  Their conditions stand in their theorems.
-/
import Derived.Test.YtkmfkaljdngigaaDoorMt03
import Derived.Test.YtkmfkaljdngigaaDoorMt01
import Derived.Test.YtkmfkaljdngigaaDoorMt02
import Derived.Deep.CutRange
import Derived.Lib.AppendIntMem

namespace Go.Proofs.YtkmfkaljdngigaaDoor
open Go.RowKit

def kindB (k : Int) (n : Nat) : Bool := (decide (1 ≤ k) && decide (k ≤ 2)) && !(k == 2 && decide (0 < (n : Int)))
def boundB (i s q : Int) : Bool := (decide (1 ≤ i) && decide (i ≤ 999)) && ((decide (1 ≤ s) && decide (s ≤ 9)) && (decide (1 ≤ q) && decide (q ≤ 999)))
/-- What is wrong with a write. -/
def writeFault (k i : Int) (zs : List Int) (s q : Int) : Int :=
  if kindB k zs.length then (if boundB i s q then (if k = 1 then vecFault zs else 0) else 3) else 1

/-- The write that the pointer b points at. -/
def WriteAt (w : World) (b : Nat) (k i : Int) (v : Value) (s q : Int) : Prop :=
  w.cell? ⟨b, 0, none⟩ = some (.int .i64 k) ∧ w.cell? ⟨b, 1, none⟩ = some (.int .i64 i) ∧ w.cell? ⟨b, 2, none⟩ = some v ∧ w.cell? ⟨b, 3, none⟩ = some (.int .i64 s) ∧ w.cell? ⟨b, 4, none⟩ = some (.int .i64 q)
theorem WriteAt.later {w w' : World} {b : Nat} {k i s q : Int} {v : Value} (h : WriteAt w b k i v s q) (hb : Below w.heap.size w w') : WriteAt w' b k i v s q :=
  ⟨cell_keep hb h.1, cell_keep hb h.2.1, cell_keep hb h.2.2.1, cell_keep hb h.2.2.2.1, cell_keep hb h.2.2.2.2⟩

/-- The write at an element's place. -/
def WriteAtO (w : World) (b o : Nat) (k i : Int) (v : Value) (s q : Int) : Prop :=
  w.cell? ⟨b, o, none⟩ = some (.int .i64 k) ∧ w.cell? ⟨b, o + 1, none⟩ = some (.int .i64 i) ∧ w.cell? ⟨b, o + 2, none⟩ = some v ∧ w.cell? ⟨b, o + 3, none⟩ = some (.int .i64 s) ∧ w.cell? ⟨b, o + 4, none⟩ = some (.int .i64 q)

set_option maxRecDepth 100000 in
set_option maxHeartbeats 1000000 in
theorem l3FaultO (b o : Nat) (k i : Int) (v : Value) (s q : Int) (zs : List Int) (w : World) (hc : WriteAtO w b o k i v s q) (h : IsInts w v zs) :
    Calls Tryd.prog 23 #[.pointer (some ⟨b, o, none⟩)] w fun e w' => e = .returned (.int .i64 (writeFault k i zs s q)) ∧ w' = w := by
  have hv : ∃ a c, v = .slice a zs.length c := by obtain ⟨a, c, h, -⟩ := h; exact ⟨a, c, h⟩
  obtain ⟨av, cv, rfl⟩ := hv
  obtain ⟨c0, c1, c2, c3, c4⟩ := hc
  have HH := hide h
  clear h
  generalize hF : writeFault k i zs s q = F
  have HF := hide hF
  clear hF
  cases d1 : (decide (1 ≤ k) && decide (k ≤ 2)) with
  | false =>
    have hE : F = 1 := by rw [← unhide HF, writeFault, kindB, d1]; rfl
    subst hE
    go_enter Tryd.func23, Tryd.ntmps23
    go_wp2_with fail
    refine (inC k 1 2 _).mono ?_
    rintro e w1 ⟨rfl, rfl⟩
    rw [d1]
    go_wp2_with fail
    go_ret
    exact ⟨rfl, rfl⟩
  | true =>
    have hk : k = 1 ∨ k = 2 := by
      simp only [Bool.and_eq_true, decide_eq_true_eq] at d1
      omega
    clear d1
    rcases hk with rfl | rfl
    · have hK : kindB 1 zs.length = true := rfl
      cases dI : (decide (1 ≤ i) && decide (i ≤ 999)) with
      | false =>
        have hE : F = 3 := by rw [← unhide HF, writeFault, hK, if_pos rfl, boundB, dI]; rfl
        subst hE
        go_enter Tryd.func23, Tryd.ntmps23
        go_wp2_with fail
        refine (inC 1 1 2 _).mono ?_
        rintro e w1 ⟨rfl, rfl⟩
        go_wp2_with fail
        refine (idC i _).mono ?_
        rintro e w1 ⟨rfl, rfl⟩
        rw [dI]
        go_wp2_with fail
        go_ret
        exact ⟨rfl, rfl⟩
      | true =>
        cases dS : (decide (1 ≤ s) && decide (s ≤ 9)) with
        | false =>
          have hE : F = 3 := by rw [← unhide HF, writeFault, hK, if_pos rfl, boundB, dI, dS]; rfl
          subst hE
          go_enter Tryd.func23, Tryd.ntmps23
          go_wp2_with fail
          refine (inC 1 1 2 _).mono ?_
          rintro e w1 ⟨rfl, rfl⟩
          go_wp2_with fail
          refine (idC i _).mono ?_
          rintro e w1 ⟨rfl, rfl⟩
          rw [dI]
          go_wp2_with fail
          refine (sessionC s _).mono ?_
          rintro e w1 ⟨rfl, rfl⟩
          rw [dS]
          go_wp2_with fail
          go_ret
          exact ⟨rfl, rfl⟩
        | true =>
          cases dQ : (decide (1 ≤ q) && decide (q ≤ 999)) with
          | false =>
            have hE : F = 3 := by rw [← unhide HF, writeFault, hK, if_pos rfl, boundB, dI, dS, dQ]; rfl
            subst hE
            go_enter Tryd.func23, Tryd.ntmps23
            go_wp2_with fail
            refine (inC 1 1 2 _).mono ?_
            rintro e w1 ⟨rfl, rfl⟩
            go_wp2_with fail
            refine (idC i _).mono ?_
            rintro e w1 ⟨rfl, rfl⟩
            rw [dI]
            go_wp2_with fail
            refine (sessionC s _).mono ?_
            rintro e w1 ⟨rfl, rfl⟩
            rw [dS]
            go_wp2_with fail
            refine (inC q 1 999 _).mono ?_
            rintro e w1 ⟨rfl, rfl⟩
            rw [dQ]
            go_wp2_with fail
            go_ret
            exact ⟨rfl, rfl⟩
          | true =>
            have hE : F = vecFault zs := by rw [← unhide HF, writeFault, hK, if_pos rfl, boundB, dI, dS, dQ]; rfl
            subst hE
            go_enter Tryd.func23, Tryd.ntmps23
            go_wp2_with fail
            refine (inC 1 1 2 _).mono ?_
            rintro e w1 ⟨rfl, rfl⟩
            go_wp2_with fail
            refine (idC i _).mono ?_
            rintro e w1 ⟨rfl, rfl⟩
            rw [dI]
            go_wp2_with fail
            refine (sessionC s _).mono ?_
            rintro e w1 ⟨rfl, rfl⟩
            rw [dS]
            go_wp2_with fail
            refine (inC q 1 999 _).mono ?_
            rintro e w1 ⟨rfl, rfl⟩
            rw [dQ]
            go_wp2_with fail
            refine (modelFault _ zs _ (unhide HH)).mono ?_
            rintro e w1 ⟨rfl, rfl⟩
            go_wp2_with fail
            go_ret
            exact ⟨rfl, rfl⟩
    · by_cases hz : zs.length = 0
      · obtain rfl : zs = [] := List.eq_nil_of_length_eq_zero hz
        have hK : kindB 2 ([] : List Int).length = true := rfl
        simp only [List.length_nil] at c2 hK
        clear hz
        cases dI : (decide (1 ≤ i) && decide (i ≤ 999)) with
        | false =>
          have hE : F = 3 := by rw [← unhide HF, writeFault, show kindB 2 ([] : List Int).length = true from rfl, if_pos rfl, boundB, dI]; rfl
          subst hE
          go_enter Tryd.func23, Tryd.ntmps23
          go_wp2_with fail
          refine (inC 2 1 2 _).mono ?_
          rintro e w1 ⟨rfl, rfl⟩
          go_wp2_with fail
          refine (idC i _).mono ?_
          rintro e w1 ⟨rfl, rfl⟩
          rw [dI]
          go_wp2_with fail
          go_ret
          exact ⟨rfl, rfl⟩
        | true =>
          cases dS : (decide (1 ≤ s) && decide (s ≤ 9)) with
          | false =>
            have hE : F = 3 := by rw [← unhide HF, writeFault, show kindB 2 ([] : List Int).length = true from rfl, if_pos rfl, boundB, dI, dS]; rfl
            subst hE
            go_enter Tryd.func23, Tryd.ntmps23
            go_wp2_with fail
            refine (inC 2 1 2 _).mono ?_
            rintro e w1 ⟨rfl, rfl⟩
            go_wp2_with fail
            refine (idC i _).mono ?_
            rintro e w1 ⟨rfl, rfl⟩
            rw [dI]
            go_wp2_with fail
            refine (sessionC s _).mono ?_
            rintro e w1 ⟨rfl, rfl⟩
            rw [dS]
            go_wp2_with fail
            go_ret
            exact ⟨rfl, rfl⟩
          | true =>
            cases dQ : (decide (1 ≤ q) && decide (q ≤ 999)) with
            | false =>
              have hE : F = 3 := by rw [← unhide HF, writeFault, show kindB 2 ([] : List Int).length = true from rfl, if_pos rfl, boundB, dI, dS, dQ]; rfl
              subst hE
              go_enter Tryd.func23, Tryd.ntmps23
              go_wp2_with fail
              refine (inC 2 1 2 _).mono ?_
              rintro e w1 ⟨rfl, rfl⟩
              go_wp2_with fail
              refine (idC i _).mono ?_
              rintro e w1 ⟨rfl, rfl⟩
              rw [dI]
              go_wp2_with fail
              refine (sessionC s _).mono ?_
              rintro e w1 ⟨rfl, rfl⟩
              rw [dS]
              go_wp2_with fail
              refine (inC q 1 999 _).mono ?_
              rintro e w1 ⟨rfl, rfl⟩
              rw [dQ]
              go_wp2_with fail
              go_ret
              exact ⟨rfl, rfl⟩
            | true =>
              have hE : F = 0 := by rw [← unhide HF, writeFault, show kindB 2 ([] : List Int).length = true from rfl, if_pos rfl, boundB, dI, dS, dQ]; rfl
              subst hE
              go_enter Tryd.func23, Tryd.ntmps23
              go_wp2_with fail
              refine (inC 2 1 2 _).mono ?_
              rintro e w1 ⟨rfl, rfl⟩
              go_wp2_with fail
              refine (idC i _).mono ?_
              rintro e w1 ⟨rfl, rfl⟩
              rw [dI]
              go_wp2_with fail
              refine (sessionC s _).mono ?_
              rintro e w1 ⟨rfl, rfl⟩
              rw [dS]
              go_wp2_with fail
              refine (inC q 1 999 _).mono ?_
              rintro e w1 ⟨rfl, rfl⟩
              rw [dQ]
              go_wp2_with fail
              go_ret
              exact ⟨rfl, rfl⟩
      · have hE : F = 1 := by
          have : kindB 2 zs.length = false := by simp [kindB]; omega
          rw [← unhide HF, writeFault, this]; rfl
        subst hE
        obtain ⟨m, hm⟩ : ∃ m, zs.length = m + 1 := ⟨zs.length - 1, by omega⟩
        rw [hm] at c2
        clear hz hm
        go_enter Tryd.func23, Tryd.ntmps23
        go_wp2_with fail
        refine (inC 2 1 2 _).mono ?_
        rintro e w1 ⟨rfl, rfl⟩
        go_wp2_with fail
        go_ret
        exact ⟨rfl, rfl⟩

theorem l3Fault (b : Nat) (k i : Int) (v : Value) (s q : Int) (zs : List Int) (w : World) (hc : WriteAt w b k i v s q) (h : IsInts w v zs) :
    Calls Tryd.prog 23 #[.pointer (some ⟨b, 0, none⟩)] w fun e w' => e = .returned (.int .i64 (writeFault k i zs s q)) ∧ w' = w :=
  l3FaultO b 0 k i v s q zs w hc h

end Go.Proofs.YtkmfkaljdngigaaDoor

namespace Go.Proofs.YtkmfkaljdngigaaDoor
open Go.RowKit

/-- A write without a fault. -/
theorem writeFault_zero {k i s q : Int} {zs : List Int} (h : writeFault k i zs s q = 0) : (1 ≤ i ∧ i ≤ 999) ∧ (1 ≤ s ∧ s ≤ 9) ∧ (1 ≤ q ∧ q ≤ 999) ∧ ((k = 1 ∧ vecFault zs = 0) ∨ (k = 2 ∧ zs = [])) := by
  unfold writeFault at h
  split at h
  · next hk =>
    split at h
    · next hb =>
      simp only [kindB, Bool.and_eq_true, decide_eq_true_eq, Bool.not_eq_true', Bool.and_eq_false_iff] at hk
      simp only [boundB, Bool.and_eq_true, decide_eq_true_eq] at hb
      refine ⟨hb.1, hb.2.1, hb.2.2, ?_⟩
      by_cases h1 : k = 1
      · rw [if_pos h1] at h
        exact Or.inl ⟨h1, h⟩
      · have h2 : k = 2 := by omega
        refine Or.inr ⟨h2, ?_⟩
        rcases hk.2 with h3 | h3
        · simp [h2] at h3
        · simp at h3
          exact h3
    · omega
  · omega

end Go.Proofs.YtkmfkaljdngigaaDoor

namespace Go.Proofs.YtkmfkaljdngigaaDoor
open Go.RowKit

/-- A put of three parts, and a drop, as deeds. -/
def putV (x y z : Int) : Value := .iface 97 (.agg #[.int .i64 x, .int .i64 y, .int .i64 z])
def dropV : Value := .iface 91 (.agg #[])
def deedV (k : Int) (zs : List Int) : Value := if k = 1 then putV (zs.getD 0 0) (zs.getD 1 0) (zs.getD 2 0) else dropV
def deedRes (k i : Int) (zs : List Int) (s q : Int) : Value := if writeFault k i zs s q = 0 then deedV k zs else .nilIface

def Bds (i s q : Int) : Prop := (1 ≤ i ∧ i ≤ 999) ∧ (1 ≤ s ∧ s ≤ 9) ∧ 1 ≤ q ∧ q ≤ 999
theorem bound_yes {i s q : Int} (h : Bds i s q) : boundB i s q = true := by
  obtain ⟨⟨a, b⟩, ⟨c, d⟩, e, f⟩ := h
  simp [boundB, a, b, c, d, e, f]
theorem bound_no {i s q : Int} (h : ¬ Bds i s q) : boundB i s q = false := by
  rw [Bool.eq_false_iff]
  intro hb
  simp only [boundB, Bool.and_eq_true, decide_eq_true_eq] at hb
  exact h ⟨hb.1, hb.2.1, hb.2.2⟩
theorem fault_out {k i s q : Int} {zs : List Int} (hk : kindB k zs.length = true) (h : ¬ Bds i s q) : writeFault k i zs s q = 3 := by
  rw [writeFault, hk, if_pos rfl, bound_no h]; rfl
theorem fault_drop {i s q : Int} (h : Bds i s q) : writeFault 2 i [] s q = 0 := by
  rw [writeFault, show kindB 2 ([] : List Int).length = true from rfl, if_pos rfl, bound_yes h]; rfl
theorem fault_in {k i s q : Int} {zs : List Int} (hk : kindB k zs.length = true) (h : Bds i s q) : writeFault k i zs s q = if k = 1 then vecFault zs else 0 := by
  rw [writeFault, hk, if_pos rfl, bound_yes h, if_pos rfl]

def ToldDeed (w w' : World) (e : Ending) (k i : Int) (zs : List Int) (s q : Int) : Prop := e = .returned (.tuple #[deedRes k i zs s q, .int .i64 (writeFault k i zs s q)]) ∧ Below w.heap.size w w'
theorem toldDeed_bad {w w' : World} {k i s q c : Int} {zs : List Int} (hc : writeFault k i zs s q = c) (h0 : c ≠ 0) (hb : Below w.heap.size w w') : ToldDeed w w' (.returned (.tuple #[.nilIface, .int .i64 c])) k i zs s q := by
  refine ⟨?_, hb⟩
  rw [deedRes, hc, if_neg h0]
theorem toldDeed_ok {w w' : World} {k i s q : Int} {zs : List Int} {v : Value} (hc : writeFault k i zs s q = 0) (hv : v = deedV k zs) (hb : Below w.heap.size w w') : ToldDeed w w' (.returned (.tuple #[v, .int .i64 0])) k i zs s q := by
  refine ⟨?_, hb⟩
  rw [deedRes, hc, if_pos rfl, hv]

theorem isIdC (n : Int) (w : World) : Calls Tryd.prog 55 #[.int .i64 n] w fun e w' => e = .returned (.bool (decide (1 ≤ n) && decide (n ≤ 999))) ∧ w' = w := by
  by_cases h1 : 1 ≤ n
  · have d1 : decide (1 ≤ n) = true := by simpa using h1
    rw [d1]
    cases d2 : decide (n ≤ 999) <;>
    · go_enter Tryd.func55, Tryd.ntmps55
      go_wp2
      go_ret
      exact ⟨rfl, rfl⟩
  · have d1 : decide (1 ≤ n) = false := by simpa using h1
    rw [d1]
    go_enter Tryd.func55, Tryd.ntmps55
    go_wp2
    go_ret
    exact ⟨rfl, rfl⟩
theorem isSessionC (n : Int) (w : World) : Calls Tryd.prog 56 #[.int .i64 n] w fun e w' => e = .returned (.bool (decide (1 ≤ n) && decide (n ≤ 9))) ∧ w' = w := by
  by_cases h1 : 1 ≤ n
  · have d1 : decide (1 ≤ n) = true := by simpa using h1
    rw [d1]
    cases d2 : decide (n ≤ 9) <;>
    · go_enter Tryd.func56, Tryd.ntmps56
      go_wp2
      go_ret
      exact ⟨rfl, rfl⟩
  · have d1 : decide (1 ≤ n) = false := by simpa using h1
    rw [d1]
    go_enter Tryd.func56, Tryd.ntmps56
    go_wp2
    go_ret
    exact ⟨rfl, rfl⟩
theorem isSeqC (n : Int) (w : World) : Calls Tryd.prog 57 #[.int .i64 n] w fun e w' => e = .returned (.bool (decide (1 ≤ n) && decide (n ≤ 999))) ∧ w' = w := by
  by_cases h1 : 1 ≤ n
  · have d1 : decide (1 ≤ n) = true := by simpa using h1
    rw [d1]
    cases d2 : decide (n ≤ 999) <;>
    · go_enter Tryd.func57, Tryd.ntmps57
      go_wp2
      go_ret
      exact ⟨rfl, rfl⟩
  · have d1 : decide (1 ≤ n) = false := by simpa using h1
    rw [d1]
    go_enter Tryd.func57, Tryd.ntmps57
    go_wp2
    go_ret
    exact ⟨rfl, rfl⟩

set_option maxHeartbeats 2000000 in
theorem deedOf_put_out (i : Int) (ao : Option Addr) (cap : Nat) (s q : Int) (zs : List Int) (w : World) (hb : ¬ Bds i s q) :
    Calls Tryd.prog 47 #[.agg #[.int .i64 1, .int .i64 i, .slice ao zs.length cap, .int .i64 s, .int .i64 q]] w fun e w' => ToldDeed w w' e 1 i zs s q := by
  have HB : Hid (∀ o, Below w.heap.size w (w.alloc o)) := fun o => (Below.refl _ _).alloc (Nat.le_refl _) o
  have HF : Hid (writeFault 1 i zs s q = 3) := fault_out rfl hb
  have hbb := bound_no hb
  unfold boundB at hbb
  clear hb
  cases dI : (decide (1 ≤ i) && decide (i ≤ 999)) with
  | false =>
    clear hbb
    go_enter Tryd.func47, Tryd.ntmps47
    go_wp2_with fail
    refine (isIdC i _).mono ?_
    rintro e w1 ⟨rfl, rfl⟩
    rw [dI]
    go_wp2_with fail
    go_ret2
    exact toldDeed_bad (unhide HF) (by omega) (unhide HB _)
  | true =>
    cases dS : (decide (1 ≤ s) && decide (s ≤ 9)) with
    | false =>
      clear hbb
      go_enter Tryd.func47, Tryd.ntmps47
      go_wp2_with fail
      refine (isIdC i _).mono ?_
      rintro e w1 ⟨rfl, rfl⟩
      rw [dI]
      go_wp2_with fail
      refine (isSessionC s _).mono ?_
      rintro e w1 ⟨rfl, rfl⟩
      rw [dS]
      go_wp2_with fail
      go_ret2
      exact toldDeed_bad (unhide HF) (by omega) (unhide HB _)
    | true =>
      have dQ : (decide (1 ≤ q) && decide (q ≤ 999)) = false := by rw [dI, dS] at hbb; simpa using hbb
      clear hbb
      go_enter Tryd.func47, Tryd.ntmps47
      go_wp2_with fail
      refine (isIdC i _).mono ?_
      rintro e w1 ⟨rfl, rfl⟩
      rw [dI]
      go_wp2_with fail
      refine (isSessionC s _).mono ?_
      rintro e w1 ⟨rfl, rfl⟩
      rw [dS]
      go_wp2_with fail
      refine (isSeqC q _).mono ?_
      rintro e w1 ⟨rfl, rfl⟩
      rw [dQ]
      go_wp2_with fail
      go_ret2
      exact toldDeed_bad (unhide HF) (by omega) (unhide HB _)

set_option maxHeartbeats 2000000 in
theorem deedOf_drop_out (i : Int) (ao : Option Addr) (cap : Nat) (s q : Int) (w : World) (hb : ¬ Bds i s q) :
    Calls Tryd.prog 47 #[.agg #[.int .i64 2, .int .i64 i, .slice ao 0 cap, .int .i64 s, .int .i64 q]] w fun e w' => ToldDeed w w' e 2 i [] s q := by
  have HB : Hid (∀ o, Below w.heap.size w (w.alloc o)) := fun o => (Below.refl _ _).alloc (Nat.le_refl _) o
  have HF : Hid (writeFault 2 i [] s q = 3) := fault_out rfl hb
  have hbb := bound_no hb
  unfold boundB at hbb
  clear hb
  cases dI : (decide (1 ≤ i) && decide (i ≤ 999)) with
  | false =>
    clear hbb
    go_enter Tryd.func47, Tryd.ntmps47
    go_wp2_with fail
    refine (isIdC i _).mono ?_
    rintro e w1 ⟨rfl, rfl⟩
    rw [dI]
    go_wp2_with fail
    go_ret2
    exact toldDeed_bad (unhide HF) (by omega) (unhide HB _)
  | true =>
    cases dS : (decide (1 ≤ s) && decide (s ≤ 9)) with
    | false =>
      clear hbb
      go_enter Tryd.func47, Tryd.ntmps47
      go_wp2_with fail
      refine (isIdC i _).mono ?_
      rintro e w1 ⟨rfl, rfl⟩
      rw [dI]
      go_wp2_with fail
      refine (isSessionC s _).mono ?_
      rintro e w1 ⟨rfl, rfl⟩
      rw [dS]
      go_wp2_with fail
      go_ret2
      exact toldDeed_bad (unhide HF) (by omega) (unhide HB _)
    | true =>
      have dQ : (decide (1 ≤ q) && decide (q ≤ 999)) = false := by rw [dI, dS] at hbb; simpa using hbb
      clear hbb
      go_enter Tryd.func47, Tryd.ntmps47
      go_wp2_with fail
      refine (isIdC i _).mono ?_
      rintro e w1 ⟨rfl, rfl⟩
      rw [dI]
      go_wp2_with fail
      refine (isSessionC s _).mono ?_
      rintro e w1 ⟨rfl, rfl⟩
      rw [dS]
      go_wp2_with fail
      refine (isSeqC q _).mono ?_
      rintro e w1 ⟨rfl, rfl⟩
      rw [dQ]
      go_wp2_with fail
      go_ret2
      exact toldDeed_bad (unhide HF) (by omega) (unhide HB _)

set_option maxHeartbeats 2000000 in
theorem deedOf_drop (i : Int) (ao : Option Addr) (cap : Nat) (s q : Int) (w : World) (hb : Bds i s q) :
    Calls Tryd.prog 47 #[.agg #[.int .i64 2, .int .i64 i, .slice ao 0 cap, .int .i64 s, .int .i64 q]] w fun e w' => ToldDeed w w' e 2 i [] s q := by
  have HB : Hid (∀ o, Below w.heap.size w (w.alloc o)) := fun o => (Below.refl _ _).alloc (Nat.le_refl _) o
  have HF : Hid (writeFault 2 i [] s q = 0) := fault_drop hb
  obtain ⟨⟨i1, i2⟩, ⟨s1, s2⟩, q1, q2⟩ := hb
  have dI : (decide (1 ≤ i) && decide (i ≤ 999)) = true := by simp [i1, i2]
  have dS : (decide (1 ≤ s) && decide (s ≤ 9)) = true := by simp [s1, s2]
  have dQ : (decide (1 ≤ q) && decide (q ≤ 999)) = true := by simp [q1, q2]
  go_enter Tryd.func47, Tryd.ntmps47
  go_wp2_with fail
  refine (isIdC i _).mono ?_
  rintro e w1 ⟨rfl, rfl⟩
  rw [dI]
  go_wp2_with fail
  refine (isSessionC s _).mono ?_
  rintro e w1 ⟨rfl, rfl⟩
  rw [dS]
  go_wp2_with fail
  refine (isSeqC q _).mono ?_
  rintro e w1 ⟨rfl, rfl⟩
  rw [dQ]
  go_wp2_with fail
  go_ret2
  exact toldDeed_ok (unhide HF) rfl (unhide HB _)

set_option maxHeartbeats 1000000 in
theorem deedOf_many (i : Int) (ao : Option Addr) (cap n : Nat) (s q : Int) (zs : List Int) (w : World) (hn : zs.length = n + 1) :
    Calls Tryd.prog 47 #[.agg #[.int .i64 2, .int .i64 i, .slice ao (n + 1) cap, .int .i64 s, .int .i64 q]] w fun e w' => ToldDeed w w' e 2 i zs s q := by
  have B0 : ∀ o, Below w.heap.size w (w.alloc o) := fun o => (Below.refl _ _).alloc (Nat.le_refl _) o
  have HB := hide B0
  have hF : writeFault 2 i zs s q = 1 := by
    have : kindB 2 zs.length = false := by simp [kindB]; omega
    rw [writeFault, this]; rfl
  have HF := hide hF
  clear B0 hF hn
  go_enter Tryd.func47, Tryd.ntmps47
  go_wp2
  go_ret2
  exact toldDeed_bad (unhide HF) (by omega) (unhide HB _)

set_option maxHeartbeats 1000000 in
theorem deedOf_none (k i : Int) (ao : Option Addr) (cap : Nat) (s q : Int) (zs : List Int) (w : World) (h1 : k ≠ 1) (h2 : k ≠ 2) :
    Calls Tryd.prog 47 #[.agg #[.int .i64 k, .int .i64 i, .slice ao zs.length cap, .int .i64 s, .int .i64 q]] w fun e w' => ToldDeed w w' e k i zs s q := by
  have B0 : ∀ o, Below w.heap.size w (w.alloc o) := fun o => (Below.refl _ _).alloc (Nat.le_refl _) o
  have HB := hide B0
  have hF : writeFault k i zs s q = 1 := by
    have : kindB k zs.length = false := by simp [kindB]; omega
    rw [writeFault, this]; rfl
  have HF := hide hF
  clear B0 hF
  go_enter Tryd.func47, Tryd.ntmps47
  go_wp2
  go_ret2
  exact toldDeed_bad (unhide HF) (by omega) (unhide HB _)

theorem vectorOf_any (v : Value) (zs : List Int) (w : World) (h : IsInts w v zs) :
    Calls Tryd.prog 58 #[v] w fun e w' => e = .returned (.tuple #[if vecFault zs = 0 then arr3 (zs.getD 0 0) (zs.getD 1 0) (zs.getD 2 0) else arr3 0 0 0, .int .i64 (vecFault zs)]) ∧ Below w.heap.size w w' := by
  by_cases hf : vecFault zs = 0
  · obtain ⟨hl, -⟩ := vecFault_zero hf
    match zs, hl with
    | [x, y, z], _ =>
      rw [if_pos hf]
      refine (vectorOf_ok v x y z w h hf).mono ?_
      rintro e w' ⟨rfl, hb⟩
      exact ⟨by rw [hf]; rfl, hb⟩
  · rw [if_neg hf]
    exact vectorOf_bad v zs w h hf

set_option maxHeartbeats 2000000 in
theorem deedOf_put (i : Int) (ao : Option Addr) (cap : Nat) (s q : Int) (zs : List Int) (w : World) (h : IsInts w (.slice ao zs.length cap) zs) (hb : Bds i s q) :
    Calls Tryd.prog 47 #[.agg #[.int .i64 1, .int .i64 i, .slice ao zs.length cap, .int .i64 s, .int .i64 q]] w fun e w' => ToldDeed w w' e 1 i zs s q := by
  have B0 : Below w.heap.size w (w.alloc (.cells #[.int .i64 1, .int .i64 i, .slice ao zs.length cap, .int .i64 s, .int .i64 q] 31)) := (Below.refl _ _).alloc (Nat.le_refl _) _
  have HB := hide B0
  have H := hide (h.later B0)
  clear h B0
  have HF : Hid (writeFault 1 i zs s q = vecFault zs) := fault_in rfl hb
  obtain ⟨⟨i1, i2⟩, ⟨s1, s2⟩, q1, q2⟩ := hb
  have dI : (decide (1 ≤ i) && decide (i ≤ 999)) = true := by simp [i1, i2]
  have dS : (decide (1 ≤ s) && decide (s ≤ 9)) = true := by simp [s1, s2]
  have dQ : (decide (1 ≤ q) && decide (q ≤ 999)) = true := by simp [q1, q2]
  go_enter Tryd.func47, Tryd.ntmps47
  go_wp2_with fail
  refine (isIdC i _).mono ?_
  rintro e w1 ⟨rfl, rfl⟩
  rw [dI]
  go_wp2_with fail
  refine (isSessionC s _).mono ?_
  rintro e w1 ⟨rfl, rfl⟩
  rw [dS]
  go_wp2_with fail
  refine (isSeqC q _).mono ?_
  rintro e w1 ⟨rfl, rfl⟩
  rw [dQ]
  go_wp2_with fail
  refine (vectorOf_any _ zs _ (unhide H)).mono ?_
  rintro e w1 ⟨rfl, hb1⟩
  have HB1 := hide ((unhide HB).trans (hb1.mono (unhide HB).size))
  have hz : w.heap.size ≤ w1.heap.size := (unhide HB1).size
  clear HB hb1 H
  generalize hV : vecFault zs = F at *
  by_cases hf : F = 0
  · subst hf
    rw [if_pos rfl]
    simp only [arr3]
    go_wp2_with fail
    go_ret2
    refine toldDeed_ok (unhide HF) ?_ ?_
    · rw [deedV, if_pos rfl]; rfl
    · exact (unhide HB1).alloc hz _
  · rw [if_neg hf]
    have hd : (F != 0) = true := by rw [bne_iff_ne]; exact hf
    have HN := hide hf
    clear hf
    simp only [arr3]
    go_wp2_with fail
    go_ret2
    exact toldDeed_bad (unhide HF) (unhide HN) ((unhide HB1).alloc hz _)

/-- deedOf of the program. -/
theorem implDeed (k i : Int) (v : Value) (s q : Int) (zs : List Int) (w : World) (h : IsInts w v zs) :
    Calls Tryd.prog 47 #[.agg #[.int .i64 k, .int .i64 i, v, .int .i64 s, .int .i64 q]] w fun e w' => ToldDeed w w' e k i zs s q := by
  have h' := h
  obtain ⟨ao, cap, rfl, -⟩ := h'
  by_cases h1 : k = 1
  · subst h1
    by_cases hb : Bds i s q
    · exact deedOf_put i ao cap s q zs w h hb
    · exact deedOf_put_out i ao cap s q zs w hb
  · by_cases h2 : k = 2
    · subst h2
      rcases Nat.eq_zero_or_pos zs.length with h0 | h0
      · obtain rfl : zs = [] := List.eq_nil_of_length_eq_zero h0
        by_cases hb : Bds i s q
        · exact deedOf_drop i ao cap s q w hb
        · exact deedOf_drop_out i ao cap s q w hb
      · obtain ⟨n, hn⟩ : ∃ n, zs.length = n + 1 := ⟨zs.length - 1, by omega⟩
        rw [hn]
        exact deedOf_many i ao cap n s q zs w hn
    · exact deedOf_none k i ao cap s q zs w h1 h2

end Go.Proofs.YtkmfkaljdngigaaDoor

namespace Go.Proofs.YtkmfkaljdngigaaDoor
open Go.RowKit

/-- WriteFault of the program. -/
theorem implWriteFault (k i : Int) (v : Value) (s q : Int) (zs : List Int) (w : World) (h : IsInts w v zs) :
    Calls Tryd.prog 44 #[.agg #[.int .i64 k, .int .i64 i, v, .int .i64 s, .int .i64 q]] w fun e w' => e = .returned (.int .i64 (writeFault k i zs s q)) ∧ Below w.heap.size w w' := by
  have h' := h
  obtain ⟨ao, cap, rfl, -⟩ := h'
  have B0 : Below w.heap.size w (w.alloc (.cells #[.int .i64 k, .int .i64 i, .slice ao zs.length cap, .int .i64 s, .int .i64 q] 31)) := (Below.refl _ _).alloc (Nat.le_refl _) _
  have L := hide (implDeed k i (.slice ao zs.length cap) s q zs _ (h.later B0))
  have HB := hide B0
  clear B0 h
  go_enter Tryd.func44, Tryd.ntmps44
  go_wp2_with fail
  refine (unhide L).mono ?_
  rintro e w1 ⟨rfl, hb1⟩
  have HB1 := hide ((unhide HB).trans (hb1.mono (unhide HB).size))
  clear hb1 HB L
  go_wp2_with fail
  go_ret
  exact ⟨rfl, unhide HB1⟩

end Go.Proofs.YtkmfkaljdngigaaDoor

namespace Go.Proofs.YtkmfkaljdngigaaDoor
open Go.RowKit

structure DNetResult where
  code : Int
  msgs : List DMsg

def Lay.tNetResult : Lay DNetResult := Lay.via (Lay.pair Lay.int (Lay.sl Lay.tMsg)) (fun x => (x.code, x.msgs)) (fun p => ⟨p.1, p.2⟩)

theorem lies_NetResult {w : World} {cs : List Value} {x : DNetResult} {bl : List Nat} : Lay.tNetResult.lies w cs x bl ↔ ∃ (a1 : Option Addr) (d1 : Nat) (b1 : List Nat), cs = [.int .i64 x.code, .slice a1 x.msgs.length d1] ∧ bl = b1 ∧ (Lit.int .i64 x.code).wf = true ∧ (Lay.sl Lay.tMsg).lies w [.slice a1 x.msgs.length d1] x.msgs b1 := by
  constructor
  · intro h
    obtain ⟨c0_, r0_, e0_, s0_, rfl, rfl, h0, h1⟩ := h
    obtain ⟨rfl, w0, rfl⟩ := h0
    have k1 := h1
    obtain ⟨a1, d1, rfl, -⟩ := k1
    exact ⟨a1, d1, s0_, by simp, by simp, w0, h1⟩
  · rintro ⟨a1, d1, b1, rfl, hbl, w0, l1⟩
    rw [hbl]
    exact ⟨[.int .i64 x.code], [.slice a1 x.msgs.length d1], [], b1, rfl, by simp, ⟨rfl, w0, rfl⟩, l1⟩

theorem open_NetResult {w : World} {cs : List Value} {x : DNetResult} (h : Lay.tNetResult.Reads w cs x) : ∃ (a1 : Option Addr) (d1 : Nat), cs = [.int .i64 x.code, .slice a1 x.msgs.length d1] ∧ (Lay.sl Lay.tMsg).Reads w [.slice a1 x.msgs.length d1] x.msgs := by
  obtain ⟨bl, h⟩ := h
  obtain ⟨a1, d1, b1, rfl, -, w0, l1⟩ := lies_NetResult.1 h
  exact ⟨a1, d1, rfl, ⟨_, l1⟩⟩

end Go.Proofs.YtkmfkaljdngigaaDoor

namespace Go.Proofs.YtkmfkaljdngigaaDoor
open Go.RowKit

structure DIntResult where
  code : Int
  value : Int

def Lay.tIntResult : Lay DIntResult := Lay.via (Lay.pair Lay.int Lay.int) (fun x => (x.code, x.value)) (fun p => ⟨p.1, p.2⟩)

theorem lies_IntResult {w : World} {cs : List Value} {x : DIntResult} {bl : List Nat} : Lay.tIntResult.lies w cs x bl ↔ cs = [.int .i64 x.code, .int .i64 x.value] ∧ bl = [] ∧ (Lit.int .i64 x.code).wf = true ∧ (Lit.int .i64 x.value).wf = true := by
  constructor
  · intro h
    obtain ⟨c0_, r0_, e0_, s0_, rfl, rfl, h0, h1⟩ := h
    obtain ⟨rfl, w0, rfl⟩ := h0
    obtain ⟨rfl, w1, rfl⟩ := h1
    exact ⟨by simp, by simp, w0, w1⟩
  · rintro ⟨rfl, hbl, w0, w1⟩
    rw [hbl]
    exact ⟨[.int .i64 x.code], [.int .i64 x.value], [], [], rfl, by simp, ⟨rfl, w0, rfl⟩, ⟨rfl, w1, rfl⟩⟩

end Go.Proofs.YtkmfkaljdngigaaDoor

namespace Go.Proofs.YtkmfkaljdngigaaDoor
open Go.RowKit

def wF (x : DWrite) : Int := writeFault x.kind x.id x.vec x.session x.seq
def applyI (xs : List DItem) (x : DWrite) : List DItem := if x.kind = 2 then dropI xs x.id else if roomB xs x.id then putI xs x.id x.vec else xs
def ofI (ws : List DWrite) : List DItem := ws.foldl applyI []
def wsFrom : List DWrite → Int
  | [] => 0
  | x :: xs => if wF x = 0 then wsFrom xs else wF x
def writesF (ws : List DWrite) : Int := if 200 < ws.length then 2 else wsFrom ws
def applyR (xs : List DItem) (x : DWrite) : DTableResult := if tableFault xs = 0 then (if wF x = 0 then ⟨0, applyI xs x⟩ else ⟨wF x, []⟩) else ⟨tableFault xs, []⟩
def tableOfR (ws : List DWrite) : DTableResult := if writesF ws = 0 then ⟨0, ofI ws⟩ else ⟨writesF ws, []⟩

theorem idB_of {z : Int} (h : 1 ≤ z ∧ z ≤ 999) : idB z = true := by simp only [idB, Bool.and_eq_true, decide_eq_true_eq]; exact h
theorem right_apply {xs : List DItem} (h : Right xs) {x : DWrite} (hx : wF x = 0) : Right (applyI xs x) := by
  obtain ⟨hi, -, -, hk⟩ := writeFault_zero hx
  unfold applyI
  split
  · exact right_drop h _
  · rename_i h2
    split
    · rename_i hr
      rcases hk with ⟨-, hv⟩ | ⟨hk, -⟩
      · exact right_put h (idB_of hi) hv (room_true hr)
      · exact absurd hk h2
    · exact h
theorem ofI_snoc (ws : List DWrite) (k : Nat) (h : k < ws.length) : ofI (ws.take (k + 1)) = applyI (ofI (ws.take k)) ws[k] := by
  rw [ofI, List.take_succ_eq_append_getElem h, List.foldl_append]
  rfl
theorem right_of_writes (ws : List DWrite) (h : ∀ x ∈ ws, wF x = 0) : Right (ofI ws) := by
  have : ∀ (ys : List DWrite) (xs : List DItem), Right xs → (∀ x ∈ ys, wF x = 0) → Right (ys.foldl applyI xs) := by
    intro ys
    induction ys with
    | nil => intro xs hx _; exact hx
    | cons y ys ih =>
      intro xs hx hy
      exact ih _ (right_apply hx (hy y (by simp))) fun x hx => hy x (List.mem_cons_of_mem _ hx)
  exact this ws [] right_nil h
theorem wsFrom_at (ws : List DWrite) (k : Nat) (h : k < ws.length) (hz : ∀ j (hj : j < ws.length), j < k → wF ws[j] = 0) (hn : wF ws[k] ≠ 0) : wsFrom ws = wF ws[k] := by
  induction ws generalizing k with
  | nil => simp at h
  | cons x xs ih =>
    match k with
    | 0 => rw [wsFrom, if_neg (by simpa using hn)]; rfl
    | k + 1 =>
      have h0 : wF x = 0 := hz 0 (by simp) (by omega)
      rw [wsFrom, if_pos h0]
      exact ih k (by simpa using h) (fun j hj hjk => hz (j + 1) (by simpa using hj) (by omega)) (by simpa using hn)
theorem wsFrom_all (ws : List DWrite) (hz : ∀ j (hj : j < ws.length), wF ws[j] = 0) : wsFrom ws = 0 := by
  induction ws with
  | nil => rfl
  | cons x xs ih =>
    have h0 : wF x = 0 := hz 0 (by simp)
    rw [wsFrom, if_pos h0]
    exact ih fun j hj => hz (j + 1) (by simpa using hj)
theorem wsFrom_zero {ws : List DWrite} (h : wsFrom ws = 0) : ∀ x ∈ ws, wF x = 0 := by
  induction ws with
  | nil => simp
  | cons x xs ih =>
    rw [wsFrom] at h
    by_cases h0 : wF x = 0
    · rw [if_pos h0] at h
      intro y hy
      rcases List.mem_cons.1 hy with rfl | hy
      · exact h0
      · exact ih h y hy
    · rw [if_neg h0] at h; exact absurd h h0
theorem writesF_zero {ws : List DWrite} (h : writesF ws = 0) : ws.length ≤ 200 ∧ ∀ x ∈ ws, wF x = 0 := by
  unfold writesF at h
  by_cases hn : 200 < ws.length
  · rw [if_pos hn] at h; cases h
  · rw [if_neg hn] at h; exact ⟨by omega, wsFrom_zero h⟩
theorem wF_vals (x : DWrite) : 0 ≤ wF x ∧ wF x ≤ 3 := by
  have hv := vecFault_vals x.vec
  unfold wF writeFault
  split
  · split
    · split
      · exact hv
      · decide
    · decide
  · decide
theorem wF_wf (x : DWrite) : (Lit.int .i64 (wF x)).wf = true := wf_of_bd (by have := wF_vals x; omega)
theorem wsFrom_vals (ws : List DWrite) : 0 ≤ wsFrom ws ∧ wsFrom ws ≤ 3 := by
  induction ws with
  | nil => decide
  | cons x xs ih =>
    rw [wsFrom]
    split
    · exact ih
    · exact wF_vals x
theorem writesF_wf (ws : List DWrite) : (Lit.int .i64 (writesF ws)).wf = true := by
  have := wsFrom_vals ws
  unfold writesF
  split
  · decide
  · exact wf_of_bd (by omega)

end Go.Proofs.YtkmfkaljdngigaaDoor

namespace Go.Proofs.YtkmfkaljdngigaaDoor
open Go.RowKit

def ofB (s : Int) (x : DWrite) : Bool := decide (x.session = s)
def sameB (s q : Int) (x : DWrite) : Bool := decide (x.session = s) && decide (x.seq = q)
/-- The greatest number of a session. -/
def lastI (ws : List DWrite) (s : Int) : Int := ws.foldl (fun n x => if x.session = s then max n x.seq else n) 0
/-- How many writes there are up to the first one of a session and number; 0: there is none. -/
def seenFrom (s q : Int) : Nat → List DWrite → Nat
  | _, [] => 0
  | n, x :: xs => if x.session = s ∧ x.seq = q then n + 1 else seenFrom s q (n + 1) xs
def seenI (ws : List DWrite) (s q : Int) : Nat := seenFrom s q 0 ws
/-- Of each session the numbers rise. -/
def onceB : List DWrite → List DWrite → Bool
  | _, [] => true
  | pre, x :: xs => decide (lastI pre x.session < x.seq) && onceB (pre ++ [x]) xs
def askedF (ws : List DWrite) (s : Int) : Int := if writesF ws = 0 then (if 1 ≤ s ∧ s ≤ 9 then 0 else 3) else writesF ws

theorem lastI_nil (s : Int) : lastI [] s = 0 := rfl
theorem lastI_snoc (ws : List DWrite) (x : DWrite) (s : Int) : lastI (ws ++ [x]) s = if x.session = s then max (lastI ws s) x.seq else lastI ws s := by
  simp [lastI]
theorem lastI_take (ws : List DWrite) (k : Nat) (h : k < ws.length) (s : Int) : lastI (ws.take (k + 1)) s = if ws[k].session = s then max (lastI (ws.take k) s) ws[k].seq else lastI (ws.take k) s := by
  rw [List.take_succ_eq_append_getElem h, lastI_snoc]
theorem seenFrom_snoc (s q : Int) (x : DWrite) : ∀ (ws : List DWrite) (n : Nat), seenFrom s q n (ws ++ [x]) = if seenFrom s q n ws = 0 then (if x.session = s ∧ x.seq = q then n + ws.length + 1 else 0) else seenFrom s q n ws
  | [], n => by simp [seenFrom]
  | y :: ws, n => by
    rw [List.cons_append, seenFrom, seenFrom]
    by_cases h : y.session = s ∧ y.seq = q
    · rw [if_pos h, if_pos h, if_neg (by omega)]
    · rw [if_neg h, if_neg h, seenFrom_snoc s q x ws (n + 1)]
      simp only [List.length_cons]
      rw [show n + 1 + ws.length + 1 = n + (ws.length + 1) + 1 by omega]
theorem seenI_snoc (ws : List DWrite) (x : DWrite) (s q : Int) : seenI (ws ++ [x]) s q = if seenI ws s q = 0 then (if x.session = s ∧ x.seq = q then ws.length + 1 else 0) else seenI ws s q := by
  have := seenFrom_snoc s q x ws 0
  rw [Nat.zero_add] at this
  exact this
theorem seenI_le (ws : List DWrite) (s q : Int) : seenI ws s q ≤ ws.length := by
  have : ∀ (ws : List DWrite) (n : Nat), seenFrom s q n ws ≤ n + ws.length := by
    intro ws
    induction ws with
    | nil => intro n; simp [seenFrom]
    | cons x xs ih =>
      intro n
      rw [seenFrom]
      split
      · simp only [List.length_cons]; omega
      · have := ih (n + 1)
        simp only [List.length_cons]
        omega
  have := this ws 0
  rw [Nat.zero_add] at this
  exact this
theorem seenFrom_at (s q : Int) : ∀ (ws : List DWrite) (n k : Nat) (h : k < ws.length), (∀ j (hj : j < ws.length), j < k → ¬ (ws[j].session = s ∧ ws[j].seq = q)) → (ws[k].session = s ∧ ws[k].seq = q) → seenFrom s q n ws = n + k + 1
  | [], _, _, h, _, _ => by simp at h
  | x :: xs, n, 0, _, _, hk => by rw [seenFrom, if_pos (by simpa using hk)]
  | x :: xs, n, k + 1, h, hn, hk => by
    have h0 := hn 0 (by simp) (by omega)
    rw [seenFrom, if_neg (by simpa using h0), seenFrom_at s q xs (n + 1) k (by simpa using h) (fun j hj hjk => by have := hn (j + 1) (by simpa using hj) (by omega); simpa using this) (by simpa using hk)]
    omega
theorem seenI_at {s q : Int} {ws : List DWrite} {k : Nat} (h : k < ws.length) (hn : ∀ j (hj : j < ws.length), j < k → ¬ (ws[j].session = s ∧ ws[j].seq = q)) (hk : ws[k].session = s ∧ ws[k].seq = q) : seenI ws s q = k + 1 := by
  have := seenFrom_at s q ws 0 k h hn hk
  rw [Nat.zero_add] at this
  exact this
theorem seenI_none {s q : Int} {ws : List DWrite} (hn : ∀ j (hj : j < ws.length), ¬ (ws[j].session = s ∧ ws[j].seq = q)) : seenI ws s q = 0 := by
  have : ∀ (ws : List DWrite) (n : Nat), (∀ j (hj : j < ws.length), ¬ (ws[j].session = s ∧ ws[j].seq = q)) → seenFrom s q n ws = 0 := by
    intro ws
    induction ws with
    | nil => intro n _; rfl
    | cons x xs ih =>
      intro n hn
      have h0 := hn 0 (by simp)
      rw [seenFrom, if_neg (by simpa using h0)]
      exact ih (n + 1) fun j hj => by have := hn (j + 1) (by simpa using hj); simpa using this
  exact this ws 0 hn
theorem seenI_zero {ws : List DWrite} {s q : Int} (h : seenI ws s q = 0) : ∀ x ∈ ws, ¬ (x.session = s ∧ x.seq = q) := by
  have : ∀ (ws : List DWrite) (n : Nat), seenFrom s q n ws = 0 → ∀ x ∈ ws, ¬ (x.session = s ∧ x.seq = q) := by
    intro ws
    induction ws with
    | nil => intro n _ x hx; simp at hx
    | cons y xs ih =>
      intro n h x hx
      rw [seenFrom] at h
      split at h
      · omega
      · rename_i hy
        rcases List.mem_cons.1 hx with rfl | hx
        · exact hy
        · exact ih (n + 1) h x hx
  exact this ws 0 h
theorem lastI_nonneg (ws : List DWrite) (s : Int) : 0 ≤ lastI ws s := by
  have : ∀ (ws : List DWrite) (n : Int), 0 ≤ n → 0 ≤ ws.foldl (fun n x => if x.session = s then max n x.seq else n) n := by
    intro ws
    induction ws with
    | nil => intro n h; exact h
    | cons x xs ih =>
      intro n h
      rw [List.foldl_cons]
      apply ih
      split <;> omega
  exact this ws 0 (Int.le_refl _)
theorem lastI_le (ws : List DWrite) (s : Int) (h : ∀ x ∈ ws, x.seq ≤ 999) : lastI ws s ≤ 999 := by
  have : ∀ (ws : List DWrite) (n : Int), n ≤ 999 → (∀ x ∈ ws, x.seq ≤ 999) → ws.foldl (fun n x => if x.session = s then max n x.seq else n) n ≤ 999 := by
    intro ws
    induction ws with
    | nil => intro n h _; exact h
    | cons x xs ih =>
      intro n h hx
      rw [List.foldl_cons]
      apply ih
      · have := hx x (by simp)
        split <;> omega
      · intro y hy; exact hx y (List.mem_cons_of_mem _ hy)
  exact this ws 0 (by omega) h
theorem onceB_at : ∀ (ws pre : List DWrite) (k : Nat) (h : k < ws.length), (ws[k]).seq ≤ lastI (pre ++ ws.take k) (ws[k]).session → onceB pre ws = false
  | [], _, _, h, _ => by simp at h
  | x :: xs, pre, 0, _, hk => by
    have : ¬ (lastI pre x.session < x.seq) := by simpa using hk
    simp [onceB, this]
  | x :: xs, pre, k + 1, h, hk => by
    rw [onceB, onceB_at xs (pre ++ [x]) k (by simpa using h) (by simpa using hk), Bool.and_false]
theorem onceB_all : ∀ (ws pre : List DWrite), (∀ k (h : k < ws.length), lastI (pre ++ ws.take k) (ws[k]).session < (ws[k]).seq) → onceB pre ws = true
  | [], _, _ => rfl
  | x :: xs, pre, h => by
    have h0 := h 0 (by simp)
    rw [onceB, onceB_all xs (pre ++ [x]) fun k hk => by have := h (k + 1) (by simpa using hk); simpa using this]
    simpa using h0
def onceR (ws : List DWrite) : Bool := decide (writesF ws = 0) && onceB [] ws
theorem wF_seq {x : DWrite} (h : wF x = 0) : 1 ≤ x.session ∧ x.session ≤ 9 ∧ 1 ≤ x.seq ∧ x.seq ≤ 999 := by
  obtain ⟨-, h1, h2, -⟩ := writeFault_zero h
  exact ⟨h1.1, h1.2, h2.1, h2.2⟩

end Go.Proofs.YtkmfkaljdngigaaDoor

namespace Go.Proofs.YtkmfkaljdngigaaDoor
open Go.RowKit

/-- A write that is none. -/
def noW (y : DWrite) : Prop := y.kind = 0 ∧ y.id = 0 ∧ y.session = 0 ∧ y.seq = 0 ∧ y.vec.length = 0
instance (y : DWrite) : Decidable (noW y) := by unfold noW; infer_instance
def msgFault (x : DMsg) : Int :=
  if ¬ (1 ≤ x.kind ∧ x.kind ≤ 2) ∨ x.src = x.dst ∨ (x.kind = 2 ∧ ¬ noW x.write) then 1
  else if ¬ (1 ≤ x.epoch ∧ x.epoch ≤ 999) ∨ ¬ (1 ≤ x.src ∧ x.src ≤ 5) ∨ ¬ (1 ≤ x.dst ∧ x.dst ≤ 5) ∨ ¬ (0 ≤ x.index ∧ x.index ≤ 40) ∨ (x.kind ≠ 2 ∧ x.index = 0) then 3
  else if x.kind = 2 then 0 else wF x.write
def msgsFrom : List DMsg → Int
  | [] => 0
  | x :: xs => if msgFault x = 0 then msgsFrom xs else msgFault x
def netFault (xs : List DMsg) : Int := if 40 < xs.length then 2 else msgsFrom xs
def sameM (x y : DMsg) : Bool := x.kind == y.kind && x.epoch == y.epoch && x.src == y.src && x.dst == y.dst && x.index == y.index && sameW x.write y.write
def badNet (c : Int) : DNetResult := ⟨c, []⟩
def sendM (xs : List DMsg) (x : DMsg) : DNetResult :=
  if xs.any (fun y => sameM y x) then ⟨0, xs⟩ else if 40 ≤ xs.length then badNet 2 else ⟨0, xs ++ [x]⟩
def sendR (xs : List DMsg) (x : DMsg) : DNetResult :=
  if netFault xs = 0 then (if msgFault x = 0 then sendM xs x else badNet (msgFault x)) else badNet (netFault xs)
def dropMR (xs : List DMsg) (i : Int) : DNetResult :=
  if netFault xs = 0 then (if 0 ≤ i ∧ i ≤ xs.length - 1 then ⟨0, xs.take i.toNat ++ xs.drop (i.toNat + 1)⟩ else badNet 3) else badNet (netFault xs)
def countM (xs : List DMsg) (z : Int) : Nat := (xs.filter fun y => y.dst == z).length
def countR (xs : List DMsg) (z : Int) : DIntResult := if netFault xs = 0 then ⟨0, countM xs z⟩ else ⟨netFault xs, 0⟩

theorem msgFault_vals (x : DMsg) : 0 ≤ msgFault x ∧ msgFault x ≤ 6 := by
  have := wF_vals x.write
  unfold msgFault
  split
  · omega
  · split
    · omega
    · split
      · omega
      · omega
theorem msgsFrom_vals : ∀ xs : List DMsg, 0 ≤ msgsFrom xs ∧ msgsFrom xs ≤ 6
  | [] => by simp [msgsFrom]
  | x :: xs => by
    rw [msgsFrom]
    split
    · exact msgsFrom_vals xs
    · exact msgFault_vals x
theorem netFault_vals (xs : List DMsg) : 0 ≤ netFault xs ∧ netFault xs ≤ 6 := by
  unfold netFault
  split
  · omega
  · exact msgsFrom_vals xs
theorem msgsFrom_zero : ∀ {xs : List DMsg}, msgsFrom xs = 0 → ∀ x ∈ xs, msgFault x = 0
  | [], _, _, h => by cases h
  | x :: xs, h, y, hy => by
    rw [msgsFrom] at h
    by_cases h1 : msgFault x = 0
    · rw [if_pos h1] at h
      rcases List.mem_cons.1 hy with rfl | hy
      · exact h1
      · exact msgsFrom_zero h y hy
    · rw [if_neg h1] at h
      exact absurd h h1
theorem msgsFrom_all : ∀ {xs : List DMsg}, (∀ x ∈ xs, msgFault x = 0) → msgsFrom xs = 0
  | [], _ => rfl
  | x :: xs, h => by
    rw [msgsFrom, if_pos (h x (by simp))]
    exact msgsFrom_all fun y hy => h y (List.mem_cons_of_mem _ hy)
theorem msgsFrom_at : ∀ {xs : List DMsg} {k : Nat} (hk : k < xs.length), (∀ j (hj : j < k), msgFault xs[j] = 0) → msgFault xs[k] ≠ 0 → msgsFrom xs = msgFault xs[k]
  | x :: xs, 0, hk, _, h => by
    have h1 : msgFault x ≠ 0 := h
    rw [msgsFrom, if_neg h1]
    rfl
  | x :: xs, k + 1, hk, hb, h => by
    have h1 : msgFault x = 0 := hb 0 (by omega)
    rw [msgsFrom, if_pos h1]
    exact msgsFrom_at (xs := xs) (k := k) (by simpa using hk) (fun j hj => hb (j + 1) (by omega)) h
end Go.Proofs.YtkmfkaljdngigaaDoor

namespace Go.Proofs.YtkmfkaljdngigaaDoor
open Go.RowKit

theorem sameW_refl (y : DWrite) : sameW y y = true := by simp [sameW]
theorem sameM_refl (x : DMsg) : sameM x x = true := by simp [sameM, sameW_refl]
theorem netFault_zero {xs : List DMsg} (h : netFault xs = 0) : xs.length ≤ 40 ∧ ∀ x ∈ xs, msgFault x = 0 := by
  unfold netFault at h
  split at h
  · simp at h
  · exact ⟨by omega, msgsFrom_zero h⟩
theorem netFault_ok {xs : List DMsg} (h : xs.length ≤ 40) (h2 : ∀ x ∈ xs, msgFault x = 0) : netFault xs = 0 := by
  rw [netFault, if_neg (by omega)]
  exact msgsFrom_all h2
theorem countM_le (xs : List DMsg) (z : Int) : countM xs z ≤ xs.length := List.length_filter_le _ _
theorem sendM_there {xs : List DMsg} {x : DMsg} (h : xs.any (fun y => sameM y x) = true) : sendM xs x = ⟨0, xs⟩ := by rw [sendM, if_pos h]
theorem sendM_new {xs : List DMsg} {x : DMsg} (h : xs.any (fun y => sameM y x) = false) (hl : xs.length < 40) : sendM xs x = ⟨0, xs ++ [x]⟩ := by rw [sendM, if_neg (by simp [h]), if_neg (by omega)]
theorem sendM_full {xs : List DMsg} {x : DMsg} (h : xs.any (fun y => sameM y x) = false) (hl : 40 ≤ xs.length) : sendM xs x = badNet 2 := by rw [sendM, if_neg (by simp [h]), if_pos hl]
theorem sendR_net {xs : List DMsg} {x : DMsg} (h : netFault xs ≠ 0) : sendR xs x = badNet (netFault xs) := by rw [sendR, if_neg h]
theorem sendR_msg {xs : List DMsg} {x : DMsg} (h : netFault xs = 0) (h2 : msgFault x ≠ 0) : sendR xs x = badNet (msgFault x) := by rw [sendR, if_pos h, if_neg h2]
theorem sendR_ok {xs : List DMsg} {x : DMsg} (h : netFault xs = 0) (h2 : msgFault x = 0) : sendR xs x = sendM xs x := by rw [sendR, if_pos h, if_pos h2]
/-- What holds behind a message that was sent. -/
structure Nets (xs : List DMsg) (x : DMsg) (ys : List DMsg) : Prop where
  nf : netFault xs = 0
  mf : msgFault x = 0
  send : sendR xs x = ⟨0, ys⟩
  again : sendR ys x = ⟨0, ys⟩
  yf : netFault ys = 0
  pos : 1 ≤ ys.length
  few : ys.length ≤ 40
  le : xs.length ≤ ys.length
  ca : countR xs x.dst = ⟨0, (countM xs x.dst : Nat)⟩
  cb : countR ys x.dst = ⟨0, (countM ys x.dst : Nat)⟩
  cd : countM ys x.dst = countM xs x.dst + (ys.length - xs.length)
  drop : dropMR ys ((ys.length : Int) - 1) = ⟨0, ys.take (ys.length - 1)⟩
theorem dropMR_last {ys : List DMsg} (h : netFault ys = 0) (hp : 1 ≤ ys.length) : dropMR ys ((ys.length : Int) - 1) = ⟨0, ys.take (ys.length - 1)⟩ := by
  have e : ((ys.length : Int) - 1).toNat = ys.length - 1 := by omega
  rw [dropMR, if_pos h, if_pos (by omega), e, List.drop_eq_nil_of_le (by omega), List.append_nil]
theorem nets_plain {xs : List DMsg} {x : DMsg} (h : (sendR xs x).code = 0) : ∃ ys, Nets xs x ys := by
  by_cases hn : netFault xs = 0
  · by_cases hm : msgFault x = 0
    · obtain ⟨hl, hall⟩ := netFault_zero hn
      cases ha : xs.any (fun y => sameM y x)
      · by_cases hf : xs.length < 40
        · have hyf : netFault (xs ++ [x]) = 0 := netFault_ok (by simp; omega) fun y hy => by
            rcases List.mem_append.1 hy with hy | hy
            · exact hall y hy
            · rw [List.mem_singleton.1 hy]; exact hm
          have hag : (xs ++ [x]).any (fun y => sameM y x) = true := by simp [sameM_refl]
          refine ⟨xs ++ [x], hn, hm, by rw [sendR_ok hn hm, sendM_new ha hf], by rw [sendR_ok hyf hm, sendM_there hag], hyf, by simp, by simp; omega, by simp, by rw [countR, if_pos hn], by rw [countR, if_pos hyf], ?_, dropMR_last hyf (by simp)⟩
          simp [countM, List.filter_append]
        · rw [sendR_ok hn hm, sendM_full ha (by omega)] at h
          simp [badNet] at h
      · have hp : 1 ≤ xs.length := by
          cases xs with
          | nil => simp at ha
          | cons y ys => simp
        exact ⟨xs, hn, hm, by rw [sendR_ok hn hm, sendM_there ha], by rw [sendR_ok hn hm, sendM_there ha], hn, hp, hl, Nat.le_refl _, by rw [countR, if_pos hn], by rw [countR, if_pos hn], by omega, dropMR_last hn hp⟩
    · rw [sendR_msg hn hm] at h
      exact absurd h hm
  · rw [sendR_net hn] at h
    exact absurd h hn
end Go.Proofs.YtkmfkaljdngigaaDoor

namespace Go.Proofs.YtkmfkaljdngigaaDoor
open Go.RowKit

theorem isChainEpochC (n : Int) (w : World) :
    Calls Tryd.prog 41 #[.int .i64 n] w fun e w' => e = .returned (.bool (decide (1 ≤ n) && decide (n ≤ 999))) ∧ w' = w := by
  by_cases h1 : 1 ≤ n
  · have d1 : decide (1 ≤ n) = true := by simpa using h1
    rw [d1]
    cases d2 : decide (n ≤ 999) <;>
    · go_enter Tryd.func41, Tryd.ntmps41
      go_wp2_with fail
      go_ret
      exact ⟨rfl, rfl⟩
  · have d1 : decide (1 ≤ n) = false := by simpa using h1
    rw [d1]
    go_enter Tryd.func41, Tryd.ntmps41
    go_wp2_with fail
    go_ret
    exact ⟨rfl, rfl⟩
/-- Whether an index fits a message. -/
def idxB (x : DMsg) : Bool := (decide (0 ≤ x.index) && decide (x.index ≤ 40)) && (x.kind == 2 || decide (0 < x.index))
set_option maxRecDepth 10000 in
theorem isMsgIndexC (a : Option Addr) (d : Nat) (x : DMsg) (w : World) :
    Calls Tryd.prog 43 #[.agg #[.int .i64 x.kind, .int .i64 x.epoch, .int .i64 x.src, .int .i64 x.dst, .int .i64 x.index, .int .i64 x.write.kind, .int .i64 x.write.id, .slice a x.write.vec.length d, .int .i64 x.write.session, .int .i64 x.write.seq]] w fun e w' => e = .returned (.bool (idxB x)) ∧ Below w.heap.size w w' := by
  have HB : Hid (Below w.heap.size w (w.alloc (.cells #[.int .i64 x.kind, .int .i64 x.epoch, .int .i64 x.src, .int .i64 x.dst, .int .i64 x.index, .int .i64 x.write.kind, .int .i64 x.write.id, .slice a x.write.vec.length d, .int .i64 x.write.session, .int .i64 x.write.seq] 33))) := (Below.refl _ _).alloc (Nat.le_refl _) _
  have L := hide (isUpToC x.index 40 (w.alloc (.cells #[.int .i64 x.kind, .int .i64 x.epoch, .int .i64 x.src, .int .i64 x.dst, .int .i64 x.index, .int .i64 x.write.kind, .int .i64 x.write.id, .slice a x.write.vec.length d, .int .i64 x.write.session, .int .i64 x.write.seq] 33)))
  cases d1 : (decide (0 ≤ x.index) && decide (x.index ≤ 40))
  · have HI : Hid (idxB x = false) := by show idxB x = false; rw [idxB, d1]; rfl
    rw [d1] at L
    clear d1
    go_enter Tryd.func43, Tryd.ntmps43
    go_wp2_with fail
    refine (unhide L).mono ?_
    rintro e w1 ⟨rfl, h1⟩
    subst w1
    clear L
    go_wp2_with fail
    go_ret
    exact ⟨by rw [unhide HI]; rfl, unhide HB⟩
  · rw [d1] at L
    cases d2 : (x.kind == 2)
    · have HI : Hid (idxB x = decide (0 < x.index)) := by show idxB x = _; rw [idxB, d1, d2]; rfl
      clear d1
      go_enter Tryd.func43, Tryd.ntmps43
      go_wp2_with fail
      refine (unhide L).mono ?_
      rintro e w1 ⟨rfl, h1⟩
      subst w1
      clear L
      go_wp2_with fail
      go_ret
      exact ⟨by rw [unhide HI]; rfl, unhide HB⟩
    · have HI : Hid (idxB x = true) := by show idxB x = _; rw [idxB, d1, d2]; rfl
      clear d1
      go_enter Tryd.func43, Tryd.ntmps43
      go_wp2_with fail
      refine (unhide L).mono ?_
      rintro e w1 ⟨rfl, h1⟩
      subst w1
      clear L
      go_wp2_with fail
      go_ret
      exact ⟨by rw [unhide HI]; rfl, unhide HB⟩

def zeroW : DWrite := ⟨0, 0, [], 0, 0⟩
theorem sameW_zero (y : DWrite) : sameW y zeroW = true ↔ noW y := by
  constructor
  · intro h
    simp only [sameW, zeroW, Bool.and_eq_true, beq_iff_eq] at h
    exact ⟨h.1, h.2.1, h.2.2.1, h.2.2.2.1, by rw [of_decide_eq_true h.2.2.2.2]; rfl⟩
  · rintro ⟨h1, h2, h3, h4, h5⟩
    have h6 : y.vec = [] := List.eq_nil_of_length_eq_zero h5
    simp only [sameW, zeroW, Bool.and_eq_true, beq_iff_eq]
    exact ⟨h1, h2, h3, h4, decide_eq_true h6⟩
theorem zeroW_reads (w : World) : Lay.tWrite.Reads w [.int .i64 0, .int .i64 0, .slice none 0 0, .int .i64 0, .int .i64 0] zeroW :=
  ⟨[], lies_Write.2 ⟨none, 0, [], rfl, rfl, by decide, by decide, ⟨none, 0, rfl, ⟨by simp [zeroW], by simp [zeroW]⟩, Or.inl ⟨rfl, rfl⟩⟩, by decide, by decide⟩⟩

/-! What comes first. -/
theorem mfi_kind {x : DMsg} (h : (x.kind == 1) = false) (h2 : (x.kind == 2) = false) : msgFault x = 1 := by
  have h1 : ¬ x.kind = 1 := by simpa using h
  have h3 : ¬ x.kind = 2 := by simpa using h2
  rw [msgFault, if_pos (Or.inl (by omega))]
theorem mfi_self {x : DMsg} (h : (x.src != x.dst) = false) : msgFault x = 1 := by
  rw [msgFault, if_pos (Or.inr (Or.inl (by simpa using h)))]
theorem mfi_ack {x : DMsg} (h : (x.kind == 2) = true) (h2 : sameW x.write zeroW = false) : msgFault x = 1 := by
  rw [msgFault, if_pos (Or.inr (Or.inr ⟨by simpa using h, fun q => by rw [(sameW_zero _).2 q] at h2; simp at h2⟩))]
/-- The form is right. -/
def formM (x : DMsg) : Prop := (1 ≤ x.kind ∧ x.kind ≤ 2) ∧ x.src ≠ x.dst ∧ (x.kind = 2 → noW x.write)
theorem mfi_form {x : DMsg} (h : formM x) : msgFault x = if ¬ (1 ≤ x.epoch ∧ x.epoch ≤ 999) ∨ ¬ (1 ≤ x.src ∧ x.src ≤ 5) ∨ ¬ (1 ≤ x.dst ∧ x.dst ≤ 5) ∨ ¬ (0 ≤ x.index ∧ x.index ≤ 40) ∨ (x.kind ≠ 2 ∧ x.index = 0) then 3
  else if x.kind = 2 then 0 else wF x.write := by
  rw [msgFault, if_neg]
  rintro (h1 | h1 | h1)
  · exact h1 h.1
  · exact h.2.1 h1
  · exact h1.2 (h.2.2 h1.1)
theorem mfi_epoch {x : DMsg} (h : formM x) (h2 : (decide (1 ≤ x.epoch) && decide (x.epoch ≤ 999)) = false) : msgFault x = 3 := by
  rw [mfi_form h, if_pos (Or.inl fun q => by simp at h2; omega)]
theorem mfi_src {x : DMsg} (h : formM x) (h2 : (decide (1 ≤ x.src) && decide (x.src ≤ 5)) = false) : msgFault x = 3 := by
  rw [mfi_form h, if_pos (Or.inr (Or.inl fun q => by simp at h2; omega))]
theorem mfi_dst {x : DMsg} (h : formM x) (h2 : (decide (1 ≤ x.dst) && decide (x.dst ≤ 5)) = false) : msgFault x = 3 := by
  rw [mfi_form h, if_pos (Or.inr (Or.inr (Or.inl fun q => by simp at h2; omega)))]
theorem mfi_idx {x : DMsg} (h : formM x) (h2 : idxB x = false) : msgFault x = 3 := by
  rw [mfi_form h, if_pos]
  have : ¬ (0 ≤ x.index ∧ x.index ≤ 40) ∨ (x.kind ≠ 2 ∧ x.index = 0) := by
    refine Decidable.byContradiction fun q => ?_
    rw [idxB] at h2
    have q1 : 0 ≤ x.index ∧ x.index ≤ 40 := Decidable.byContradiction fun z => q (Or.inl z)
    rw [decide_eq_true q1.1, decide_eq_true q1.2] at h2
    simp at h2
    exact q (Or.inr ⟨h2.1, by omega⟩)
  exact Or.inr (Or.inr (Or.inr this))
theorem mfi_rest {x : DMsg} (h : formM x) (h1 : (decide (1 ≤ x.epoch) && decide (x.epoch ≤ 999)) = true) (h2 : (decide (1 ≤ x.src) && decide (x.src ≤ 5)) = true) (h3 : (decide (1 ≤ x.dst) && decide (x.dst ≤ 5)) = true) (h4 : idxB x = true) : msgFault x = if x.kind = 2 then 0 else wF x.write := by
  simp only [Bool.and_eq_true, decide_eq_true_eq] at h1 h2 h3
  simp only [idxB, Bool.and_eq_true, Bool.or_eq_true, decide_eq_true_eq, beq_iff_eq] at h4
  rw [mfi_form h, if_neg]
  rintro (q | q | q | q | q)
  · exact q h1
  · exact q h2
  · exact q h3
  · exact q h4.1
  · rcases h4.2 with z | z
    · exact q.1 z
    · omega
theorem vec_of {w : World} {x : DWrite} {a : Option Addr} {d : Nat} (h : Lay.tWrite.Reads w [.int .i64 x.kind, .int .i64 x.id, .slice a x.vec.length d, .int .i64 x.session, .int .i64 x.seq] x) : (Lay.sl Lay.int).Reads w [.slice a x.vec.length d] x.vec := by
  obtain ⟨a2, d2, e, R⟩ := open_Write h
  simp only [List.cons.injEq, Value.slice.injEq, and_true, true_and] at e
  obtain ⟨rfl, rfl⟩ := e
  exact R
set_option maxRecDepth 10000 in
set_option maxHeartbeats 4000000 in
theorem mustBeMsgC (cs : List Value) (x : DMsg) (w : World) (h : Lay.tMsg.Reads w cs x) :
    Calls Tryd.prog 28 #[.agg cs.toArray] w fun e w' => e = wrongE (msgFault x) ∧ Below w.heap.size w w' := by
  obtain ⟨a, d, rfl, R⟩ := open_Msg h
  have nb : Below w.heap.size w (w.alloc (.cells #[.int .i64 x.kind, .int .i64 x.epoch, .int .i64 x.src, .int .i64 x.dst, .int .i64 x.index, .int .i64 x.write.kind, .int .i64 x.write.id, .slice a x.write.vec.length d, .int .i64 x.write.session, .int .i64 x.write.seq] 33)) := (Below.refl _ _).alloc (Nat.le_refl _) _
  have HR := hide (R.later nb)
  have HB := hide nb
  have HX : Hid (Box 0 #[.int .i64 x.kind, .int .i64 x.epoch, .int .i64 x.src, .int .i64 x.dst, .int .i64 x.index, .int .i64 x.write.kind, .int .i64 x.write.id, .slice a x.write.vec.length d, .int .i64 x.write.session, .int .i64 x.write.seq] 33 (w.alloc (.cells #[.int .i64 x.kind, .int .i64 x.epoch, .int .i64 x.src, .int .i64 x.dst, .int .i64 x.index, .int .i64 x.write.kind, .int .i64 x.write.id, .slice a x.write.vec.length d, .int .i64 x.write.session, .int .i64 x.write.seq] 33)) w.heap.size) := newBox (Nat.zero_le _)
  clear R h nb
  go_enter Tryd.func28, Tryd.ntmps28
  go_upto_region 1 with fail
  generalize (w.alloc (.cells #[.int .i64 x.kind, .int .i64 x.epoch, .int .i64 x.src, .int .i64 x.dst, .int .i64 x.index, .int .i64 x.write.kind, .int .i64 x.write.id, .slice a x.write.vec.length d, .int .i64 x.write.session, .int .i64 x.write.seq] 33)) = W1 at *
  have z0 : W1.cell? ⟨w.heap.size, 0, none⟩ = some (.int .i64 x.kind) := (unhide HX).at 0 _ rfl
  have z1 : W1.cell? ⟨w.heap.size, 1, none⟩ = some (.int .i64 x.epoch) := (unhide HX).at 1 _ rfl
  have z2 : W1.cell? ⟨w.heap.size, 2, none⟩ = some (.int .i64 x.src) := (unhide HX).at 2 _ rfl
  have z3 : W1.cell? ⟨w.heap.size, 3, none⟩ = some (.int .i64 x.dst) := (unhide HX).at 3 _ rfl
  have z4 : W1.cell? ⟨w.heap.size, 4, none⟩ = some (.int .i64 x.index) := (unhide HX).at 4 _ rfl
  have z5 : W1.cell? ⟨w.heap.size, 5, none⟩ = some (.int .i64 x.write.kind) := (unhide HX).at 5 _ rfl
  have z6 : W1.cell? ⟨w.heap.size, 6, none⟩ = some (.int .i64 x.write.id) := (unhide HX).at 6 _ rfl
  have z7 : W1.cell? ⟨w.heap.size, 7, none⟩ = some (.slice a x.write.vec.length d) := (unhide HX).at 7 _ rfl
  have z8 : W1.cell? ⟨w.heap.size, 8, none⟩ = some (.int .i64 x.write.session) := (unhide HX).at 8 _ rfl
  have z9 : W1.cell? ⟨w.heap.size, 9, none⟩ = some (.int .i64 x.write.seq) := (unhide HX).at 9 _ rfl
  cases e1 : (x.kind == 1)
  · cases e2 : (x.kind == 2)
    · have HF := hide (mfi_kind e1 e2)
      go_wp2_with fail
      refine (mustF 1 _).mono ?_
      rintro e w9 ⟨rfl, h9⟩
      subst w9
      go_wp2_with fail
      exact ⟨rfl, by rw [unhide HF]; rfl, unhide HB⟩
    · go_wp2_with fail
      refine (mustT 1 _).mono ?_
      rintro e w9 ⟨rfl, h9⟩
      subst w9
      cases e3 : (x.src != x.dst)
      · have HF := hide (mfi_self e3)
        go_wp2_with fail
        refine (mustF 1 _).mono ?_
        rintro e w9 ⟨rfl, h9⟩
        subst w9
        go_wp2_with fail
        exact ⟨rfl, by rw [unhide HF]; rfl, unhide HB⟩
      · go_wp2_with fail
        refine (mustT 1 _).mono ?_
        rintro e w9 ⟨rfl, h9⟩
        subst w9
        have HL := hide (sameWrite _ _ x.write zeroW W1 (unhide HR) (zeroW_reads W1))
        go_wp2_with fail
        refine (unhide HL).mono ?_
        rintro e Wa ⟨rfl, hb⟩
        replace HX := hide ((unhide HX).keep hb)
        replace HR := hide ((unhide HR).later hb)
        replace HB := hide ((unhide HB).trans (hb.mono (unhide HB).size))
        clear hb z0 z1 z2 z3 z4 z5 z6 z7 z8 z9
        have z0 : Wa.cell? ⟨w.heap.size, 0, none⟩ = some (.int .i64 x.kind) := (unhide HX).at 0 _ rfl
        have z1 : Wa.cell? ⟨w.heap.size, 1, none⟩ = some (.int .i64 x.epoch) := (unhide HX).at 1 _ rfl
        have z2 : Wa.cell? ⟨w.heap.size, 2, none⟩ = some (.int .i64 x.src) := (unhide HX).at 2 _ rfl
        have z3 : Wa.cell? ⟨w.heap.size, 3, none⟩ = some (.int .i64 x.dst) := (unhide HX).at 3 _ rfl
        have z4 : Wa.cell? ⟨w.heap.size, 4, none⟩ = some (.int .i64 x.index) := (unhide HX).at 4 _ rfl
        have z5 : Wa.cell? ⟨w.heap.size, 5, none⟩ = some (.int .i64 x.write.kind) := (unhide HX).at 5 _ rfl
        have z6 : Wa.cell? ⟨w.heap.size, 6, none⟩ = some (.int .i64 x.write.id) := (unhide HX).at 6 _ rfl
        have z7 : Wa.cell? ⟨w.heap.size, 7, none⟩ = some (.slice a x.write.vec.length d) := (unhide HX).at 7 _ rfl
        have z8 : Wa.cell? ⟨w.heap.size, 8, none⟩ = some (.int .i64 x.write.session) := (unhide HX).at 8 _ rfl
        have z9 : Wa.cell? ⟨w.heap.size, 9, none⟩ = some (.int .i64 x.write.seq) := (unhide HX).at 9 _ rfl
        clear HL
        cases e9 : sameW x.write zeroW
        · have HF := hide (mfi_ack e2 e9)
          clear e9
          go_wp2_with fail
          refine (mustF 1 _).mono ?_
          rintro e w9 ⟨rfl, h9⟩
          subst w9
          go_wp2_with fail
          exact ⟨rfl, by rw [unhide HF]; rfl, unhide HB⟩
        · have HFM : Hid (formM x) := ⟨by simp at e2; omega, by simpa using e3, fun _ => (sameW_zero _).1 e9⟩
          clear e9
          go_wp2_with fail
          refine (mustT 1 _).mono ?_
          rintro e w9 ⟨rfl, h9⟩
          subst w9
          cases e4 : (decide (1 ≤ x.epoch) && decide (x.epoch ≤ 999))
          · have HL := hide (isChainEpochC x.epoch Wa)
            rw [e4] at HL
            have HF := hide (mfi_epoch (unhide HFM) e4)
            clear e4
            go_wp2_with fail
            refine (unhide HL).mono ?_
            rintro e w9 ⟨rfl, h9⟩
            subst w9
            clear HL
            go_wp2_with fail
            refine (mustF 3 _).mono ?_
            rintro e w9 ⟨rfl, h9⟩
            subst w9
            go_wp2_with fail
            exact ⟨rfl, by rw [unhide HF]; rfl, unhide HB⟩
          · have HL := hide (isChainEpochC x.epoch Wa)
            rw [e4] at HL
            have HE := hide e4
            clear e4
            go_wp2_with fail
            refine (unhide HL).mono ?_
            rintro e w9 ⟨rfl, h9⟩
            subst w9
            clear HL
            go_wp2_with fail
            refine (mustT 3 _).mono ?_
            rintro e w9 ⟨rfl, h9⟩
            subst w9
            cases e5 : (decide (1 ≤ x.src) && decide (x.src ≤ 5))
            · have HL := hide (isNodeIdC x.src Wa)
              rw [e5] at HL
              have HF := hide (mfi_src (unhide HFM) e5)
              clear e5
              go_wp2_with fail
              refine (unhide HL).mono ?_
              rintro e w9 ⟨rfl, h9⟩
              subst w9
              clear HL
              go_wp2_with fail
              refine (mustF 3 _).mono ?_
              rintro e w9 ⟨rfl, h9⟩
              subst w9
              go_wp2_with fail
              exact ⟨rfl, by rw [unhide HF]; rfl, unhide HB⟩
            · have HL := hide (isNodeIdC x.src Wa)
              rw [e5] at HL
              have HS := hide e5
              clear e5
              go_wp2_with fail
              refine (unhide HL).mono ?_
              rintro e w9 ⟨rfl, h9⟩
              subst w9
              clear HL
              cases e6 : (decide (1 ≤ x.dst) && decide (x.dst ≤ 5))
              · have HL := hide (isNodeIdC x.dst Wa)
                rw [e6] at HL
                have HF := hide (mfi_dst (unhide HFM) e6)
                clear e6
                go_wp2_with fail
                refine (unhide HL).mono ?_
                rintro e w9 ⟨rfl, h9⟩
                subst w9
                clear HL
                go_wp2_with fail
                refine (mustF 3 _).mono ?_
                rintro e w9 ⟨rfl, h9⟩
                subst w9
                go_wp2_with fail
                exact ⟨rfl, by rw [unhide HF]; rfl, unhide HB⟩
              · have HL := hide (isNodeIdC x.dst Wa)
                rw [e6] at HL
                have HD := hide e6
                clear e6
                go_wp2_with fail
                refine (unhide HL).mono ?_
                rintro e w9 ⟨rfl, h9⟩
                subst w9
                clear HL
                go_wp2_with fail
                refine (mustT 3 _).mono ?_
                rintro e w9 ⟨rfl, h9⟩
                subst w9
                have HL := hide (isMsgIndexC a d x Wa)
                go_wp2_with fail
                refine (unhide HL).mono ?_
                rintro e W2 ⟨rfl, hb⟩
                replace HX := hide ((unhide HX).keep hb)
                replace HR := hide ((unhide HR).later hb)
                replace HB := hide ((unhide HB).trans (hb.mono (unhide HB).size))
                clear hb z0 z1 z2 z3 z4 z5 z6 z7 z8 z9
                have z0 : W2.cell? ⟨w.heap.size, 0, none⟩ = some (.int .i64 x.kind) := (unhide HX).at 0 _ rfl
                have z1 : W2.cell? ⟨w.heap.size, 1, none⟩ = some (.int .i64 x.epoch) := (unhide HX).at 1 _ rfl
                have z2 : W2.cell? ⟨w.heap.size, 2, none⟩ = some (.int .i64 x.src) := (unhide HX).at 2 _ rfl
                have z3 : W2.cell? ⟨w.heap.size, 3, none⟩ = some (.int .i64 x.dst) := (unhide HX).at 3 _ rfl
                have z4 : W2.cell? ⟨w.heap.size, 4, none⟩ = some (.int .i64 x.index) := (unhide HX).at 4 _ rfl
                have z5 : W2.cell? ⟨w.heap.size, 5, none⟩ = some (.int .i64 x.write.kind) := (unhide HX).at 5 _ rfl
                have z6 : W2.cell? ⟨w.heap.size, 6, none⟩ = some (.int .i64 x.write.id) := (unhide HX).at 6 _ rfl
                have z7 : W2.cell? ⟨w.heap.size, 7, none⟩ = some (.slice a x.write.vec.length d) := (unhide HX).at 7 _ rfl
                have z8 : W2.cell? ⟨w.heap.size, 8, none⟩ = some (.int .i64 x.write.session) := (unhide HX).at 8 _ rfl
                have z9 : W2.cell? ⟨w.heap.size, 9, none⟩ = some (.int .i64 x.write.seq) := (unhide HX).at 9 _ rfl
                clear HL
                cases e7 : idxB x
                · have HF := hide (mfi_idx (unhide HFM) e7)
                  clear e7
                  go_wp2_with fail
                  refine (mustF 3 _).mono ?_
                  rintro e w9 ⟨rfl, h9⟩
                  subst w9
                  go_wp2_with fail
                  exact ⟨rfl, by rw [unhide HF]; rfl, unhide HB⟩
                · have HF := hide (mfi_rest (unhide HFM) (unhide HE) (unhide HS) (unhide HD) e7)
                  clear e7
                  go_wp2_with fail
                  refine (mustT 3 _).mono ?_
                  rintro e w9 ⟨rfl, h9⟩
                  subst w9
                  replace HF := hide ((unhide HF).trans (if_pos (by simpa using e2)))
                  go_wp2_with fail
                  go_end0
                  exact ⟨by rw [unhide HF]; rfl, unhide HB⟩
  · go_wp2_with fail
    refine (mustT 1 _).mono ?_
    rintro e w9 ⟨rfl, h9⟩
    subst w9
    cases e3 : (x.src != x.dst)
    · have HF := hide (mfi_self e3)
      go_wp2_with fail
      refine (mustF 1 _).mono ?_
      rintro e w9 ⟨rfl, h9⟩
      subst w9
      go_wp2_with fail
      exact ⟨rfl, by rw [unhide HF]; rfl, unhide HB⟩
    · have HFM : Hid (formM x) := ⟨by simp at e1; omega, by simpa using e3, fun q => by simp at e1; omega⟩
      go_wp2_with fail
      refine (mustT 1 _).mono ?_
      rintro e w9 ⟨rfl, h9⟩
      subst w9
      go_wp2_with fail
      refine (mustT 1 _).mono ?_
      rintro e w9 ⟨rfl, h9⟩
      subst w9
      cases e4 : (decide (1 ≤ x.epoch) && decide (x.epoch ≤ 999))
      · have HL := hide (isChainEpochC x.epoch W1)
        rw [e4] at HL
        have HF := hide (mfi_epoch (unhide HFM) e4)
        clear e4
        go_wp2_with fail
        refine (unhide HL).mono ?_
        rintro e w9 ⟨rfl, h9⟩
        subst w9
        clear HL
        go_wp2_with fail
        refine (mustF 3 _).mono ?_
        rintro e w9 ⟨rfl, h9⟩
        subst w9
        go_wp2_with fail
        exact ⟨rfl, by rw [unhide HF]; rfl, unhide HB⟩
      · have HL := hide (isChainEpochC x.epoch W1)
        rw [e4] at HL
        have HE := hide e4
        clear e4
        go_wp2_with fail
        refine (unhide HL).mono ?_
        rintro e w9 ⟨rfl, h9⟩
        subst w9
        clear HL
        go_wp2_with fail
        refine (mustT 3 _).mono ?_
        rintro e w9 ⟨rfl, h9⟩
        subst w9
        cases e5 : (decide (1 ≤ x.src) && decide (x.src ≤ 5))
        · have HL := hide (isNodeIdC x.src W1)
          rw [e5] at HL
          have HF := hide (mfi_src (unhide HFM) e5)
          clear e5
          go_wp2_with fail
          refine (unhide HL).mono ?_
          rintro e w9 ⟨rfl, h9⟩
          subst w9
          clear HL
          go_wp2_with fail
          refine (mustF 3 _).mono ?_
          rintro e w9 ⟨rfl, h9⟩
          subst w9
          go_wp2_with fail
          exact ⟨rfl, by rw [unhide HF]; rfl, unhide HB⟩
        · have HL := hide (isNodeIdC x.src W1)
          rw [e5] at HL
          have HS := hide e5
          clear e5
          go_wp2_with fail
          refine (unhide HL).mono ?_
          rintro e w9 ⟨rfl, h9⟩
          subst w9
          clear HL
          cases e6 : (decide (1 ≤ x.dst) && decide (x.dst ≤ 5))
          · have HL := hide (isNodeIdC x.dst W1)
            rw [e6] at HL
            have HF := hide (mfi_dst (unhide HFM) e6)
            clear e6
            go_wp2_with fail
            refine (unhide HL).mono ?_
            rintro e w9 ⟨rfl, h9⟩
            subst w9
            clear HL
            go_wp2_with fail
            refine (mustF 3 _).mono ?_
            rintro e w9 ⟨rfl, h9⟩
            subst w9
            go_wp2_with fail
            exact ⟨rfl, by rw [unhide HF]; rfl, unhide HB⟩
          · have HL := hide (isNodeIdC x.dst W1)
            rw [e6] at HL
            have HD := hide e6
            clear e6
            go_wp2_with fail
            refine (unhide HL).mono ?_
            rintro e w9 ⟨rfl, h9⟩
            subst w9
            clear HL
            go_wp2_with fail
            refine (mustT 3 _).mono ?_
            rintro e w9 ⟨rfl, h9⟩
            subst w9
            have HL := hide (isMsgIndexC a d x W1)
            go_wp2_with fail
            refine (unhide HL).mono ?_
            rintro e W2 ⟨rfl, hb⟩
            replace HX := hide ((unhide HX).keep hb)
            replace HR := hide ((unhide HR).later hb)
            replace HB := hide ((unhide HB).trans (hb.mono (unhide HB).size))
            clear hb z0 z1 z2 z3 z4 z5 z6 z7 z8 z9
            have z0 : W2.cell? ⟨w.heap.size, 0, none⟩ = some (.int .i64 x.kind) := (unhide HX).at 0 _ rfl
            have z1 : W2.cell? ⟨w.heap.size, 1, none⟩ = some (.int .i64 x.epoch) := (unhide HX).at 1 _ rfl
            have z2 : W2.cell? ⟨w.heap.size, 2, none⟩ = some (.int .i64 x.src) := (unhide HX).at 2 _ rfl
            have z3 : W2.cell? ⟨w.heap.size, 3, none⟩ = some (.int .i64 x.dst) := (unhide HX).at 3 _ rfl
            have z4 : W2.cell? ⟨w.heap.size, 4, none⟩ = some (.int .i64 x.index) := (unhide HX).at 4 _ rfl
            have z5 : W2.cell? ⟨w.heap.size, 5, none⟩ = some (.int .i64 x.write.kind) := (unhide HX).at 5 _ rfl
            have z6 : W2.cell? ⟨w.heap.size, 6, none⟩ = some (.int .i64 x.write.id) := (unhide HX).at 6 _ rfl
            have z7 : W2.cell? ⟨w.heap.size, 7, none⟩ = some (.slice a x.write.vec.length d) := (unhide HX).at 7 _ rfl
            have z8 : W2.cell? ⟨w.heap.size, 8, none⟩ = some (.int .i64 x.write.session) := (unhide HX).at 8 _ rfl
            have z9 : W2.cell? ⟨w.heap.size, 9, none⟩ = some (.int .i64 x.write.seq) := (unhide HX).at 9 _ rfl
            clear HL
            cases e7 : idxB x
            · have HF := hide (mfi_idx (unhide HFM) e7)
              clear e7
              go_wp2_with fail
              refine (mustF 3 _).mono ?_
              rintro e w9 ⟨rfl, h9⟩
              subst w9
              go_wp2_with fail
              exact ⟨rfl, by rw [unhide HF]; rfl, unhide HB⟩
            · have HF := hide (mfi_rest (unhide HFM) (unhide HE) (unhide HS) (unhide HD) e7)
              clear e7
              go_wp2_with fail
              refine (mustT 3 _).mono ?_
              rintro e w9 ⟨rfl, h9⟩
              subst w9
              replace HF := hide ((unhide HF).trans (if_neg (by simp at e1; omega)))
              have HL := hide (implWriteFault x.write.kind x.write.id _ x.write.session x.write.seq x.write.vec W2 (Lay.ints_reads (vec_of (unhide HR))))
              go_wp2_with fail
              refine (unhide HL).mono ?_
              rintro e W3 ⟨rfl, hb⟩
              replace HX := hide ((unhide HX).keep hb)
              replace HR := hide ((unhide HR).later hb)
              replace HB := hide ((unhide HB).trans (hb.mono (unhide HB).size))
              clear hb z0 z1 z2 z3 z4 z5 z6 z7 z8 z9
              have z0 : W3.cell? ⟨w.heap.size, 0, none⟩ = some (.int .i64 x.kind) := (unhide HX).at 0 _ rfl
              have z1 : W3.cell? ⟨w.heap.size, 1, none⟩ = some (.int .i64 x.epoch) := (unhide HX).at 1 _ rfl
              have z2 : W3.cell? ⟨w.heap.size, 2, none⟩ = some (.int .i64 x.src) := (unhide HX).at 2 _ rfl
              have z3 : W3.cell? ⟨w.heap.size, 3, none⟩ = some (.int .i64 x.dst) := (unhide HX).at 3 _ rfl
              have z4 : W3.cell? ⟨w.heap.size, 4, none⟩ = some (.int .i64 x.index) := (unhide HX).at 4 _ rfl
              have z5 : W3.cell? ⟨w.heap.size, 5, none⟩ = some (.int .i64 x.write.kind) := (unhide HX).at 5 _ rfl
              have z6 : W3.cell? ⟨w.heap.size, 6, none⟩ = some (.int .i64 x.write.id) := (unhide HX).at 6 _ rfl
              have z7 : W3.cell? ⟨w.heap.size, 7, none⟩ = some (.slice a x.write.vec.length d) := (unhide HX).at 7 _ rfl
              have z8 : W3.cell? ⟨w.heap.size, 8, none⟩ = some (.int .i64 x.write.session) := (unhide HX).at 8 _ rfl
              have z9 : W3.cell? ⟨w.heap.size, 9, none⟩ = some (.int .i64 x.write.seq) := (unhide HX).at 9 _ rfl
              clear HL
              replace HF : Hid (msgFault x = writeFault x.write.kind x.write.id x.write.vec x.write.session x.write.seq) := unhide HF
              generalize writeFault x.write.kind x.write.id x.write.vec x.write.session x.write.seq = f at *
              cases e8 : (f == 0)
              · have hf : f ≠ 0 := by simpa using e8
                have HG := hide hf
                clear hf
                go_wp2_with fail
                refine (mustF f _).mono ?_
                rintro e w9 ⟨rfl, h9⟩
                subst w9
                go_wp2_with fail
                exact ⟨rfl, by rw [unhide HF]; exact (wrongE_bad (unhide HG)).symm, unhide HB⟩
              · have hf : f = 0 := by simpa using e8
                subst hf
                clear e8
                go_wp2_with fail
                refine (mustT 0 _).mono ?_
                rintro e w9 ⟨rfl, h9⟩
                subst w9
                go_wp2_with fail
                go_end0
                exact ⟨by rw [unhide HF]; rfl, unhide HB⟩
end Go.Proofs.YtkmfkaljdngigaaDoor

namespace Go.Proofs.YtkmfkaljdngigaaDoor
open Go.RowKit

theorem infoS : (Tryd.prog.info? 9).map (fun i => (i.zero, i.size, i.bytes)) = some (some (.string ⟨#[]⟩), 1, 16) := by kernel_rfl

/-- At an operation of a plain region: the new texts lie in a block of their own. -/
theorem wpList_append_strs {w1 : World} {base : Nat} {v : Value} {n : Nat} {xs : List Value} (hown : w1.ownsRow base 9 1 v n xs) (cs : List ByteArray) {ops : Array Oper} {rest : List Oper} {o : Oper} {a : Act} {Q : Exit → Act → World → Prop} (hgd : o.guard = none) (s x : Operand)
    (ho : o.op = .call { callee := .builtin .append, args := #[s, x], argTypes := #[45, 45] }) (hs : a.eval s = v) (m : Nat) (hx : a.eval x = .slice (some ⟨w1.heap.size, 0, none⟩) m m) (hm : cs.length = m) (hm0 : 0 < m)
    (hn : n + m ≤ 100000000) (hbase : base ≤ w1.heap.size)
    (h : ∀ g cap w', w'.ownsRow base 9 1 (.slice (some ⟨g, 0, none⟩) (n + m) cap) (n + m) (xs ++ cs.map Value.string) → w1.grownBy w' v.ownBlock → Below base w1 w' → g < w'.heap.size → w1.heap.size < w'.heap.size → wpList Tryd.prog ops Q rest (a.put o.dst (.slice (some ⟨g, 0, none⟩) (n + m) cap)) w') :
    wpList Tryd.prog ops Q (o :: rest) a (w1.alloc (.cells (cs.map Value.string).toArray 9)) := by
  obtain ⟨i0, hi0, hz0, hz1, hz2⟩ := info_parts infoS
  refine wpList_append_lies _ hgd s x 45 ho base 9 i0 _ 1 16 Tryd.underlying45 hi0 hz0 hz1 hz2 rfl (by omega) v n xs hs (hown.alloc _) ⟨w1.heap.size, 0, none⟩ m m (cs.map Value.string) hx (by simp [hm]) (World.news_of_block (cs := (cs.map Value.string).toArray) (t := 9) (fr := (0, 0)) (heap_alloc_new w1 _)) (by simp [Value.oneCell']) hm0 (by unfold maxLen; omega) (by omega) (by simp; omega) (w1.heap.size + 1) (by simp) ?_
  intro g cap w' h2 h3 _ h5
  have hg := grown_alloc h3
  have hsz := h3.size
  simp only [World.size_alloc] at hsz
  exact h g cap w' h2 hg ((Below.refl _ _).grown hg hbase (fun j hj => (hown.lt j hj).1)) h5 (by omega)

/-- At a step of a region that draws its order. -/
theorem step_append_strs {w1 : World} {base : Nat} {v : Value} {n : Nat} {xs : List Value} (hown : w1.ownsRow base 9 1 v n xs) (cs : List ByteArray) {ops : Array Oper} {o : Oper} {a : Act} {K : Act → World → Prop} {Q : Exit → Act → World → Prop} {E : Prop} (hgd : o.guard = none) (s x : Operand)
    (ho : o.op = .call { callee := .builtin .append, args := #[s, x], argTypes := #[45, 45] }) (hs : a.eval s = v) (m B : Nat) (hx : a.eval x = .slice (some ⟨B, 0, none⟩) m m) (hB : w1.heap[B]? = some (.cells (cs.map Value.string).toArray 9 (0, 0))) (hm : cs.length = m) (hm0 : 0 < m)
    (hn : n + m ≤ 100000000) (hbase : base ≤ w1.heap.size)
    (h : ∀ g cap w', w'.ownsRow base 9 1 (.slice (some ⟨g, 0, none⟩) (n + m) cap) (n + m) (xs ++ cs.map Value.string) → Below base w1 w' → g < w'.heap.size → w1.heap.size ≤ w'.heap.size → K (a.put o.dst (.slice (some ⟨g, 0, none⟩) (n + m) cap)) w') :
    if Region.wanted o (yielded ops a.tmps) = true then Oper.wp Tryd.prog o a w1 K Q else E := by
  obtain ⟨i0, hi0, hz0, hz1, hz2⟩ := info_parts infoS
  refine step_append_lies _ hgd s x 45 ho base 9 i0 _ 1 16 Tryd.underlying45 hi0 hz0 hz1 hz2 rfl (by omega) v n xs hs hown ⟨B, 0, none⟩ m m (cs.map Value.string) hx (by simp [hm]) (World.news_of_block (cs := (cs.map Value.string).toArray) (t := 9) (fr := (0, 0)) hB) (by simp [Value.oneCell']) hm0 (by unfold maxLen; omega) (by omega) hbase w1.heap.size rfl ?_
  intro g cap w' h2 h3 _ h5
  exact h g cap w' h2 ((Below.refl _ _).grown h3 hbase (fun j hj => (hown.lt j hj).1)) h5 h3.size

end Go.Proofs.YtkmfkaljdngigaaDoor

namespace Go.Proofs.YtkmfkaljdngigaaDoor
open Go.RowKit

theorem dec_len (n : Int) : (dec n).length ≤ 5 := by
  unfold dec
  split
  · have := decF_len 4 n.natAbs; simp; omega
  · have := decF_len 4 n.toNat; omega

/-- The text of three numbers. -/
def text3 (x y z : Int) : Bytes := dec x ++ 44 :: (dec y ++ 44 :: dec z)
theorem text3_len (x y z : Int) : (text3 x y z).length ≤ 17 := by
  have := dec_len x
  have := dec_len y
  have := dec_len z
  simp [text3]
  omega
/-- What VecText tells. -/
def vecText (zs : List Int) : Bytes := if vecFault zs = 0 then text3 (zs.getD 0 0) (zs.getD 1 0) (zs.getD 2 0) else []
theorem vecText_len (zs : List Int) : (vecText zs).length ≤ 17 := by
  unfold vecText
  split
  · exact text3_len _ _ _
  · simp

end Go.Proofs.YtkmfkaljdngigaaDoor

namespace Go.Proofs.YtkmfkaljdngigaaDoor
open Go.RowKit

/-- What stands ahead of 'by'. -/
def writeHead (k i : Int) (zs : List Int) : Bytes := if k = 1 then [112, 117, 116, 32] ++ dec i ++ [32] ++ vecText zs else [100, 114, 111, 112, 32] ++ dec i
def writeTail (s q : Int) (h : Bytes) : Bytes := h ++ [32, 98, 121, 32] ++ dec s ++ [32] ++ dec q
def writeText (k i : Int) (zs : List Int) (s q : Int) : Bytes := if writeFault k i zs s q = 0 then writeTail s q (writeHead k i zs) else []
theorem writeHead_len (k i : Int) (zs : List Int) : (writeHead k i zs).length ≤ 30 := by
  have := dec_len i
  have := vecText_len zs
  unfold writeHead
  split <;> simp <;> omega
theorem writeText_len (k i : Int) (zs : List Int) (s q : Int) : (writeText k i zs s q).length ≤ 60 := by
  have := dec_len s
  have := dec_len q
  have := writeHead_len k i zs
  unfold writeText
  split
  · simp [writeTail]; omega
  · simp

/-- Two texts, one behind the other. -/
theorem addS {a b c : Bytes} (h : a ++ b = c) (hl : c.length ≤ 1000) : ∀ W : World, (Op.stringOp .add ⟨a.toArray⟩ ⟨b.toArray⟩).run Tryd.prog W = .ok (.string ⟨c.toArray⟩) W := by
  intro W
  subst h
  simp at hl
  exact (run_string_add_sum W _ _ (by simp [ByteArray.size]; omega)).trans (by rw [str_app])

end Go.Proofs.YtkmfkaljdngigaaDoor

namespace Go.Proofs.YtkmfkaljdngigaaDoor
open Go.RowKit

theorem methPut (n : Nat) (v : Value) (w : World) : (method (n + 1) 97 v "loop.example/g00357/impl.verb").run Tryd.prog w = .ok (93, v) w := by kernel_rfl
theorem methDrop (n : Nat) (v : Value) (w : World) : (method (n + 1) 91 v "loop.example/g00357/impl.verb").run Tryd.prog w = .ok (92, v) w := by kernel_rfl
theorem verbPut (x y z : Int) (w : World) : Calls Tryd.prog 93 #[.agg #[.int .i64 x, .int .i64 y, .int .i64 z]] w fun e w' => e = .returned (.string ⟨#[112, 117, 116]⟩) ∧ Below w.heap.size w w' := by
  go_enter Tryd.func93, Tryd.ntmps93
  go_wp2_with fail
  go_ret
  exact ⟨rfl, (Below.refl _ _).alloc (Nat.le_refl _) _⟩
theorem verbDrop (w : World) : Calls Tryd.prog 92 #[.agg #[]] w fun e w' => e = .returned (.string ⟨#[100, 114, 111, 112]⟩) ∧ Below w.heap.size w w' := by
  go_enter Tryd.func92, Tryd.ntmps92
  go_wp2_with fail
  go_ret
  exact ⟨rfl, (Below.refl _ _).alloc (Nat.le_refl _) _⟩
theorem assertPut2 (v : Value) (w : World) : (Instr.typeAssert (.iface 97 v) 84 97 true).run Tryd.prog w = .ok (.tuple #[v, .bool true]) w := by kernel_rfl
theorem assertDrop2 (v : Value) (w : World) : (Instr.typeAssert (.iface 91 v) 84 97 true).run Tryd.prog w = .ok (.tuple #[.agg #[.int .i64 0, .int .i64 0, .int .i64 0], .bool false]) w := by kernel_rfl

end Go.Proofs.YtkmfkaljdngigaaDoor
