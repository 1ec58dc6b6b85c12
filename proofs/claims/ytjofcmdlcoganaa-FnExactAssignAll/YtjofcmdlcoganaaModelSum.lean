/-
  The model's l1Score: the squares of the differences; nothing old is written.
  No condition.
-/
import Derived.Test.YtjofcmdlcoganaaScoreB
namespace Go.Proofs.Ytjofcmdlcoganaa
open Go.RowKit

set_option maxHeartbeats 1000000 in
theorem modelSum (b0 off cap b2 off2 cap2 : Nat) (x y z a b c : Int) (w : World) (c0 : w.cell? ⟨b0, off, none⟩ = some (.int .i64 x)) (c1 : w.cell? ⟨b0, off + 1, none⟩ = some (.int .i64 y)) (c2 : w.cell? ⟨b0, off + 2, none⟩ = some (.int .i64 z))
    (d0 : w.cell? ⟨b2, off2, none⟩ = some (.int .i64 a)) (d1 : w.cell? ⟨b2, off2 + 1, none⟩ = some (.int .i64 b)) (d2 : w.cell? ⟨b2, off2 + 2, none⟩ = some (.int .i64 c)) (hf1 : vecFault [x, y, z] = 0) (hf : vecFault [a, b, c] = 0) :
    Calls Try.prog 86 #[.slice (some ⟨b0, off, none⟩) 3 cap, .slice (some ⟨b2, off2, none⟩) 3 cap2] w fun e w' => e = .returned (.int .i64 ((x - a) * (x - a) + (y - b) * (y - b) + (z - c) * (z - c))) ∧ Below w.heap.size w w' := by
  obtain ⟨⟨x1, x2⟩, ⟨y1, y2⟩, ⟨z1, z2⟩⟩ := fault3 hf1
  obtain ⟨⟨a1, a2⟩, ⟨b1, b3⟩, ⟨c3, c4⟩⟩ := fault3 hf
  obtain ⟨m1, m2⟩ := sq_bd x a x1 x2 a1 a2
  obtain ⟨m3, m4⟩ := sq_bd y b y1 y2 b1 b3
  obtain ⟨m5, m6⟩ := sq_bd z c z1 z2 c3 c4
  clear hf hf1
  go_enter Try.func86, Try.ntmps86
  go_wp2_with fail
  refine wp_loop_rounds 4 ?_
  rw [rounds_succ]
  go_wp2
  go_quiet (fail)
  go_wp2
  rw [rounds_succ]
  go_wp2
  go_quiet (fail)
  go_wp2
  rw [rounds_succ]
  go_wp2
  go_quiet (fail)
  go_wp2
  rw [rounds_succ]
  go_wp2
  go_ret
  exact ⟨rfl, below_drawn (Below.refl _ _) _⟩
def score3 (zs ys : List Int) : Int := (zs.getD 0 0 - ys.getD 0 0) * (zs.getD 0 0 - ys.getD 0 0) + (zs.getD 1 0 - ys.getD 1 0) * (zs.getD 1 0 - ys.getD 1 0) + (zs.getD 2 0 - ys.getD 2 0) * (zs.getD 2 0 - ys.getD 2 0)

end Go.Proofs.Ytjofcmdlcoganaa
