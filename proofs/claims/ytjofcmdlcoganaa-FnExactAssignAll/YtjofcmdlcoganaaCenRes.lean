/-
  What NearestOf, AssignAll, CostOf, MoveCenters and TrainCenters tell, in plain words; results of the call's own.
  No condition.
-/
import Derived.Test.YtjofcmdlcoganaaCenPlain
import Derived.Test.YtjofcmdlcoganaaGround
import Derived.Test.YtjofcmdlcoganaaLayIntResult
import Derived.Test.YtjofcmdlcoganaaTabGround
namespace Go.Proofs.Ytjofcmdlcoganaa
open Go.RowKit

def nearestR (cs : List DCenter) (q : List Int) : DIntResult := if centersFault cs = 0 then (if vecFault q = 0 then ⟨0, (near cs q : Nat)⟩ else ⟨vecFault q, 0⟩) else ⟨centersFault cs, 0⟩
def askFault (cs : List DCenter) (xs : List DItem) : Int := if centersFault cs = 0 then tableFault xs else centersFault cs
theorem askFault_zero {cs : List DCenter} {xs : List DItem} (h : askFault cs xs = 0) : centersFault cs = 0 ∧ tableFault xs = 0 := by
  unfold askFault at h
  by_cases hc : centersFault cs = 0
  · rw [if_pos hc] at h; exact ⟨hc, h⟩
  · rw [if_neg hc] at h; exact absurd h hc
def assignR (cs : List DCenter) (xs : List DItem) : DIntsResult := if askFault cs xs = 0 then ⟨0, placesL cs xs⟩ else ⟨askFault cs xs, []⟩
def costR (cs : List DCenter) (xs : List DItem) : DIntResult := if askFault cs xs = 0 then ⟨0, cost cs xs⟩ else ⟨askFault cs xs, 0⟩
def movedR (cs : List DCenter) (xs : List DItem) : DCentersResult := if askFault cs xs = 0 then ⟨0, moved cs xs⟩ else ⟨askFault cs xs, []⟩
theorem own_intR {w : World} {c x : Int} {lo hi : Nat} (hc : (Lit.int .i64 c).wf = true) (hx : (Lit.int .i64 x).wf = true) : Lay.tIntResult.OwnIn w [.int .i64 c, .int .i64 x] ⟨c, x⟩ lo hi :=
  ⟨[], ⟨⟨[.int .i64 c], [.int .i64 x], [], [], rfl, by simp, ⟨rfl, hc, rfl⟩, ⟨rfl, hx, rfl⟩⟩, by simp, by simp⟩, by simp⟩
theorem own_censR {w : World} {c : Int} {v : Value} {cs : List DCenter} {lo hi : Nat} (hc : (Lit.int .i64 c).wf = true) (h : (Lay.sl Lay.tCenter).OwnIn w [v] cs lo hi) : Lay.tCentersResult.OwnIn w [.int .i64 c, v] ⟨c, cs⟩ lo hi := by
  obtain ⟨bl, ⟨l, n, f⟩, i⟩ := h
  exact ⟨bl, ⟨⟨[.int .i64 c], [v], [], bl, rfl, by simp, ⟨rfl, hc, rfl⟩, l⟩, n, f⟩, i⟩
theorem own_codeCens {w : World} {c : Int} {lo hi : Nat} (hc : (Lit.int .i64 c).wf = true) : Lay.tCentersResult.OwnIn w [.int .i64 c, .slice none 0 0] ⟨c, []⟩ lo hi := own_censR hc ⟨[], ⟨⟨none, 0, rfl, by simp, Or.inl ⟨rfl, rfl⟩⟩, by simp, by simp⟩, by simp⟩
theorem read_censR {w : World} {c : Int} {v : Value} {cs : List DCenter} (hc : (Lit.int .i64 c).wf = true) (h : (Lay.sl Lay.tCenter).Reads w [v] cs) : Lay.tCentersResult.Reads w [.int .i64 c, v] ⟨c, cs⟩ := by
  obtain ⟨bl, l⟩ := h
  exact ⟨bl, [.int .i64 c], [v], [], bl, rfl, by simp, ⟨rfl, hc, rfl⟩, l⟩
theorem own_intsR6 {w : World} {c : Int} {v : Value} {zs : List Int} {lo hi : Nat} (hc : (Lit.int .i64 c).wf = true) (h : (Lay.sl Lay.int).OwnIn w [v] zs lo hi) : Lay.tIntsResult.OwnIn w [.int .i64 c, v] ⟨c, zs⟩ lo hi := by
  obtain ⟨bl, ⟨l, n, f⟩, i⟩ := h
  exact ⟨bl, ⟨⟨[.int .i64 c], [v], [], bl, rfl, by simp, ⟨rfl, hc, rfl⟩, l⟩, n, f⟩, i⟩
theorem own_codeInts6 {w : World} {c : Int} {lo hi : Nat} (hc : (Lit.int .i64 c).wf = true) : Lay.tIntsResult.OwnIn w [.int .i64 c, .slice none 0 0] ⟨c, []⟩ lo hi := own_intsR6 hc ⟨[], ⟨⟨none, 0, rfl, by simp, Or.inl ⟨rfl, rfl⟩⟩, by simp, by simp⟩, by simp⟩
theorem tabFrom_bd (p : Option Int) (xs : List DItem) : 0 ≤ tabFrom p xs ∧ tabFrom p xs ≤ 3 := by
  induction xs generalizing p with
  | nil => show (0 : Int) ≤ 0 ∧ (0 : Int) ≤ 3; decide
  | cons x xs ih =>
    rw [tabFrom]
    split
    · split
      · split
        · exact ih _
        · decide
      · exact vecFault_bd _
    · decide
theorem tableFault_bd (xs : List DItem) : 0 ≤ tableFault xs ∧ tableFault xs ≤ 3 := by
  unfold tableFault
  split
  · decide
  · exact tabFrom_bd _ _
theorem askFault_bd (cs : List DCenter) (xs : List DItem) : 0 ≤ askFault cs xs ∧ askFault cs xs ≤ 3 := by
  unfold askFault
  split
  · exact tableFault_bd xs
  · exact centersFault_bd cs
theorem askFault_wf (cs : List DCenter) (xs : List DItem) : (Lit.int .i64 (askFault cs xs)).wf = true := wf_of_bd (by have := askFault_bd cs xs; omega)

end Go.Proofs.Ytjofcmdlcoganaa
