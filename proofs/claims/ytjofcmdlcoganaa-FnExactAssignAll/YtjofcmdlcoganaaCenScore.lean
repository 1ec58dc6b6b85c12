/-
  Scores of two right vectors: their bounds.
  No program is named here.
-/
import Derived.Test.YtjofcmdlcoganaaModelSum
namespace Go.Proofs.Ytjofcmdlcoganaa
open Go.RowKit

theorem cscore_bd {q v : List Int} (h1 : vecFault q = 0) (h2 : vecFault v = 0) : 0 ≤ score3 q v ∧ score3 q v ≤ 12000000 := by
  obtain ⟨hl, -⟩ := vecFault_zero h1
  obtain ⟨hl2, -⟩ := vecFault_zero h2
  match q, hl, v, hl2 with
  | [x, y, z], _, [a, b, c], _ =>
    obtain ⟨⟨x1, x2⟩, ⟨y1, y2⟩, ⟨z1, z2⟩⟩ := fault3 h1
    obtain ⟨⟨a1, a2⟩, ⟨b1, b2⟩, ⟨c1, c2⟩⟩ := fault3 h2
    have m1 := sq_bd x a x1 x2 a1 a2
    have m2 := sq_bd y b y1 y2 b1 b2
    have m3 := sq_bd z c z1 z2 c1 c2
    show 0 ≤ (x - a) * (x - a) + (y - b) * (y - b) + (z - c) * (z - c) ∧ (x - a) * (x - a) + (y - b) * (y - b) + (z - c) * (z - c) ≤ 12000000
    omega

end Go.Proofs.Ytjofcmdlcoganaa
