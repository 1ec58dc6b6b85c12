/-
  ScoreOf of the program and l1Score of the model at two right vectors; nothing old is written.
  Condition: both are right (premises).
-/
import Derived.Test.YtjofcmdlcoganaaCenScore
namespace Go.Proofs.Ytjofcmdlcoganaa
open Go.RowKit

theorem cvec3 {zs : List Int} (h : vecFault zs = 0) : ∃ p q r, zs = [p, q, r] := by
  have hl := (vecFault_zero h).1
  match zs, hl with
  | [p, q, r], _ => exact ⟨p, q, r, rfl⟩
theorem implScore3 (v1 v2 : Value) (p q : List Int) (w : World) (h1 : IsInts w v1 p) (h2 : IsInts w v2 q) (f1 : vecFault p = 0) (f2 : vecFault q = 0) :
    Calls Try.prog 87 #[v1, v2] w fun e w' => e = .returned (.agg #[.int .i64 0, .int .i64 (score3 p q)]) ∧ Below w.heap.size w w' := by
  obtain ⟨x, y, z, rfl⟩ := cvec3 f1
  obtain ⟨a, b, c, rfl⟩ := cvec3 f2
  exact implScore_ok v1 v2 x y z a b c w h1 h2 f1 f2
theorem modelScore3 (v1 v2 : Value) (p q : List Int) (w : World) (h1 : IsInts w v1 p) (h2 : IsInts w v2 q) (f1 : vecFault p = 0) (f2 : vecFault q = 0) :
    Calls Try.prog 86 #[v1, v2] w fun e w' => e = .returned (.int .i64 (score3 p q)) ∧ Below w.heap.size w w' := by
  obtain ⟨x, y, z, rfl⟩ := cvec3 f1
  obtain ⟨a, b, c, rfl⟩ := cvec3 f2
  obtain ⟨b1, o1, k1, x', y', z', he, rfl, hbl, c0, c1, c2⟩ := h1.three rfl
  simp only [List.cons.injEq, and_true] at he
  obtain ⟨rfl, rfl, rfl⟩ := he
  obtain ⟨b2, o2, k2, x', y', z', he, rfl, hbl2, d0, d1, d2⟩ := h2.three rfl
  simp only [List.cons.injEq, and_true] at he
  obtain ⟨rfl, rfl, rfl⟩ := he
  exact modelSum b1 o1 k1 b2 o2 k2 x y z a b c w c0 c1 c2 d0 d1 d2 f1 f2

end Go.Proofs.Ytjofcmdlcoganaa
