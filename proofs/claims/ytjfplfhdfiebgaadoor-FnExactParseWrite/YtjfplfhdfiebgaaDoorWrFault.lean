/-
  The model's WriteFault tells what is wrong with a write; nothing old is written.
  No condition.
-/
import Derived.Test.YtjfplfhdfiebgaaDoorWrBase
import Derived.Test.YtjfplfhdfiebgaaDoorInC
import Derived.Test.YtjfplfhdfiebgaaDoorFault
namespace Go.Proofs.YtjfplfhdfiebgaaDoor
open Go.RowKit

def kindB (k : Int) (n : Nat) : Bool := (decide (1 ≤ k) && decide (k ≤ 2)) && !(k == 2 && decide (0 < (n : Int)))
def boundB (i s q : Int) : Bool := (decide (1 ≤ i) && decide (i ≤ 999)) && ((decide (1 ≤ s) && decide (s ≤ 9)) && (decide (1 ≤ q) && decide (q ≤ 999)))
/-- What is wrong with a write. -/
def writeFault (k i : Int) (zs : List Int) (s q : Int) : Int :=
  if kindB k zs.length then (if boundB i s q then (if k = 1 then vecFault zs else 0) else 3) else 1

/-- The write that the pointer b points at. -/
def WriteAt (w : World) (b : Nat) (k i : Int) (v : Value) (s q : Int) : Prop :=
  w.cell? ⟨b, 0, none⟩ = some (.int .i64 k) ∧ w.cell? ⟨b, 1, none⟩ = some (.int .i64 i) ∧ w.cell? ⟨b, 2, none⟩ = some v ∧ w.cell? ⟨b, 3, none⟩ = some (.int .i64 s) ∧ w.cell? ⟨b, 4, none⟩ = some (.int .i64 q)
theorem WriteAt.later {w w' : World} {b : Nat} {k i s q : Int} {v : Value} (h : WriteAt w b k i v s q) (hb : Below w.heap.size w w') : WriteAt w' b k i v s q :=
  ⟨cell_keep hb h.1, cell_keep hb h.2.1, cell_keep hb h.2.2.1, cell_keep hb h.2.2.2.1, cell_keep hb h.2.2.2.2⟩

/-- The write at an element's place. -/
def WriteAtO (w : World) (b o : Nat) (k i : Int) (v : Value) (s q : Int) : Prop :=
  w.cell? ⟨b, o, none⟩ = some (.int .i64 k) ∧ w.cell? ⟨b, o + 1, none⟩ = some (.int .i64 i) ∧ w.cell? ⟨b, o + 2, none⟩ = some v ∧ w.cell? ⟨b, o + 3, none⟩ = some (.int .i64 s) ∧ w.cell? ⟨b, o + 4, none⟩ = some (.int .i64 q)

set_option maxRecDepth 100000 in
set_option maxHeartbeats 1000000 in
theorem l3FaultO (b o : Nat) (k i : Int) (v : Value) (s q : Int) (zs : List Int) (w : World) (hc : WriteAtO w b o k i v s q) (h : IsInts w v zs) :
    Calls Tryd.prog 17 #[.pointer (some ⟨b, o, none⟩)] w fun e w' => e = .returned (.int .i64 (writeFault k i zs s q)) ∧ w' = w := by
  have hv : ∃ a c, v = .slice a zs.length c := by obtain ⟨a, c, h, -⟩ := h; exact ⟨a, c, h⟩
  obtain ⟨av, cv, rfl⟩ := hv
  obtain ⟨c0, c1, c2, c3, c4⟩ := hc
  have HH := hide h
  clear h
  generalize hF : writeFault k i zs s q = F
  have HF := hide hF
  clear hF
  cases d1 : (decide (1 ≤ k) && decide (k ≤ 2)) with
  | false =>
    have hE : F = 1 := by rw [← unhide HF, writeFault, kindB, d1]; rfl
    subst hE
    go_enter Tryd.func17, Tryd.ntmps17
    go_wp2_with fail
    refine (inC k 1 2 _).mono ?_
    rintro e w1 ⟨rfl, rfl⟩
    rw [d1]
    go_wp2_with fail
    go_ret
    exact ⟨rfl, rfl⟩
  | true =>
    have hk : k = 1 ∨ k = 2 := by
      simp only [Bool.and_eq_true, decide_eq_true_eq] at d1
      omega
    clear d1
    rcases hk with rfl | rfl
    · have hK : kindB 1 zs.length = true := rfl
      cases dI : (decide (1 ≤ i) && decide (i ≤ 999)) with
      | false =>
        have hE : F = 3 := by rw [← unhide HF, writeFault, hK, if_pos rfl, boundB, dI]; rfl
        subst hE
        go_enter Tryd.func17, Tryd.ntmps17
        go_wp2_with fail
        refine (inC 1 1 2 _).mono ?_
        rintro e w1 ⟨rfl, rfl⟩
        go_wp2_with fail
        refine (idC i _).mono ?_
        rintro e w1 ⟨rfl, rfl⟩
        rw [dI]
        go_wp2_with fail
        go_ret
        exact ⟨rfl, rfl⟩
      | true =>
        cases dS : (decide (1 ≤ s) && decide (s ≤ 9)) with
        | false =>
          have hE : F = 3 := by rw [← unhide HF, writeFault, hK, if_pos rfl, boundB, dI, dS]; rfl
          subst hE
          go_enter Tryd.func17, Tryd.ntmps17
          go_wp2_with fail
          refine (inC 1 1 2 _).mono ?_
          rintro e w1 ⟨rfl, rfl⟩
          go_wp2_with fail
          refine (idC i _).mono ?_
          rintro e w1 ⟨rfl, rfl⟩
          rw [dI]
          go_wp2_with fail
          refine (sessionC s _).mono ?_
          rintro e w1 ⟨rfl, rfl⟩
          rw [dS]
          go_wp2_with fail
          go_ret
          exact ⟨rfl, rfl⟩
        | true =>
          cases dQ : (decide (1 ≤ q) && decide (q ≤ 999)) with
          | false =>
            have hE : F = 3 := by rw [← unhide HF, writeFault, hK, if_pos rfl, boundB, dI, dS, dQ]; rfl
            subst hE
            go_enter Tryd.func17, Tryd.ntmps17
            go_wp2_with fail
            refine (inC 1 1 2 _).mono ?_
            rintro e w1 ⟨rfl, rfl⟩
            go_wp2_with fail
            refine (idC i _).mono ?_
            rintro e w1 ⟨rfl, rfl⟩
            rw [dI]
            go_wp2_with fail
            refine (sessionC s _).mono ?_
            rintro e w1 ⟨rfl, rfl⟩
            rw [dS]
            go_wp2_with fail
            refine (inC q 1 999 _).mono ?_
            rintro e w1 ⟨rfl, rfl⟩
            rw [dQ]
            go_wp2_with fail
            go_ret
            exact ⟨rfl, rfl⟩
          | true =>
            have hE : F = vecFault zs := by rw [← unhide HF, writeFault, hK, if_pos rfl, boundB, dI, dS, dQ]; rfl
            subst hE
            go_enter Tryd.func17, Tryd.ntmps17
            go_wp2_with fail
            refine (inC 1 1 2 _).mono ?_
            rintro e w1 ⟨rfl, rfl⟩
            go_wp2_with fail
            refine (idC i _).mono ?_
            rintro e w1 ⟨rfl, rfl⟩
            rw [dI]
            go_wp2_with fail
            refine (sessionC s _).mono ?_
            rintro e w1 ⟨rfl, rfl⟩
            rw [dS]
            go_wp2_with fail
            refine (inC q 1 999 _).mono ?_
            rintro e w1 ⟨rfl, rfl⟩
            rw [dQ]
            go_wp2_with fail
            refine (modelFault _ zs _ (unhide HH)).mono ?_
            rintro e w1 ⟨rfl, rfl⟩
            go_wp2_with fail
            go_ret
            exact ⟨rfl, rfl⟩
    · by_cases hz : zs.length = 0
      · obtain rfl : zs = [] := List.eq_nil_of_length_eq_zero hz
        have hK : kindB 2 ([] : List Int).length = true := rfl
        simp only [List.length_nil] at c2 hK
        clear hz
        cases dI : (decide (1 ≤ i) && decide (i ≤ 999)) with
        | false =>
          have hE : F = 3 := by rw [← unhide HF, writeFault, show kindB 2 ([] : List Int).length = true from rfl, if_pos rfl, boundB, dI]; rfl
          subst hE
          go_enter Tryd.func17, Tryd.ntmps17
          go_wp2_with fail
          refine (inC 2 1 2 _).mono ?_
          rintro e w1 ⟨rfl, rfl⟩
          go_wp2_with fail
          refine (idC i _).mono ?_
          rintro e w1 ⟨rfl, rfl⟩
          rw [dI]
          go_wp2_with fail
          go_ret
          exact ⟨rfl, rfl⟩
        | true =>
          cases dS : (decide (1 ≤ s) && decide (s ≤ 9)) with
          | false =>
            have hE : F = 3 := by rw [← unhide HF, writeFault, show kindB 2 ([] : List Int).length = true from rfl, if_pos rfl, boundB, dI, dS]; rfl
            subst hE
            go_enter Tryd.func17, Tryd.ntmps17
            go_wp2_with fail
            refine (inC 2 1 2 _).mono ?_
            rintro e w1 ⟨rfl, rfl⟩
            go_wp2_with fail
            refine (idC i _).mono ?_
            rintro e w1 ⟨rfl, rfl⟩
            rw [dI]
            go_wp2_with fail
            refine (sessionC s _).mono ?_
            rintro e w1 ⟨rfl, rfl⟩
            rw [dS]
            go_wp2_with fail
            go_ret
            exact ⟨rfl, rfl⟩
          | true =>
            cases dQ : (decide (1 ≤ q) && decide (q ≤ 999)) with
            | false =>
              have hE : F = 3 := by rw [← unhide HF, writeFault, show kindB 2 ([] : List Int).length = true from rfl, if_pos rfl, boundB, dI, dS, dQ]; rfl
              subst hE
              go_enter Tryd.func17, Tryd.ntmps17
              go_wp2_with fail
              refine (inC 2 1 2 _).mono ?_
              rintro e w1 ⟨rfl, rfl⟩
              go_wp2_with fail
              refine (idC i _).mono ?_
              rintro e w1 ⟨rfl, rfl⟩
              rw [dI]
              go_wp2_with fail
              refine (sessionC s _).mono ?_
              rintro e w1 ⟨rfl, rfl⟩
              rw [dS]
              go_wp2_with fail
              refine (inC q 1 999 _).mono ?_
              rintro e w1 ⟨rfl, rfl⟩
              rw [dQ]
              go_wp2_with fail
              go_ret
              exact ⟨rfl, rfl⟩
            | true =>
              have hE : F = 0 := by rw [← unhide HF, writeFault, show kindB 2 ([] : List Int).length = true from rfl, if_pos rfl, boundB, dI, dS, dQ]; rfl
              subst hE
              go_enter Tryd.func17, Tryd.ntmps17
              go_wp2_with fail
              refine (inC 2 1 2 _).mono ?_
              rintro e w1 ⟨rfl, rfl⟩
              go_wp2_with fail
              refine (idC i _).mono ?_
              rintro e w1 ⟨rfl, rfl⟩
              rw [dI]
              go_wp2_with fail
              refine (sessionC s _).mono ?_
              rintro e w1 ⟨rfl, rfl⟩
              rw [dS]
              go_wp2_with fail
              refine (inC q 1 999 _).mono ?_
              rintro e w1 ⟨rfl, rfl⟩
              rw [dQ]
              go_wp2_with fail
              go_ret
              exact ⟨rfl, rfl⟩
      · have hE : F = 1 := by
          have : kindB 2 zs.length = false := by simp [kindB]; omega
          rw [← unhide HF, writeFault, this]; rfl
        subst hE
        obtain ⟨m, hm⟩ : ∃ m, zs.length = m + 1 := ⟨zs.length - 1, by omega⟩
        rw [hm] at c2
        clear hz hm
        go_enter Tryd.func17, Tryd.ntmps17
        go_wp2_with fail
        refine (inC 2 1 2 _).mono ?_
        rintro e w1 ⟨rfl, rfl⟩
        go_wp2_with fail
        go_ret
        exact ⟨rfl, rfl⟩

theorem l3Fault (b : Nat) (k i : Int) (v : Value) (s q : Int) (zs : List Int) (w : World) (hc : WriteAt w b k i v s q) (h : IsInts w v zs) :
    Calls Tryd.prog 17 #[.pointer (some ⟨b, 0, none⟩)] w fun e w' => e = .returned (.int .i64 (writeFault k i zs s q)) ∧ w' = w :=
  l3FaultO b 0 k i v s q zs w hc h

end Go.Proofs.YtjfplfhdfiebgaaDoor
