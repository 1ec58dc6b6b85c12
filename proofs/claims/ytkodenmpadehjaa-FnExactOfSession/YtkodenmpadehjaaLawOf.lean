/-
  The law FnExactOfSession answers true at all that comes in, and writes nothing that was there.
  No condition.
-/
import Derived.Test.YtkodenmpadehjaaLawXOfSession
import Derived.Test.YtkodenmpadehjaaSpecOf
namespace Go.Proofs.Ytkodenmpadehjaa
open Go.RowKit

theorem writes_few {ws : List DWrite} (h : ∀ x ∈ ws, wF x = 0) : cntAll Lay.tWrite.cnt ws ≤ 10 * ws.length := by
  induction ws with
  | nil => simp [cntAll]
  | cons x xs ih =>
    have h1 := ih fun y hy => h y (List.mem_cons_of_mem _ hy)
    have h2 := vec_few (h x (by simp))
    have h3 : Lay.tWrite.cnt x = x.vec.length + 4 := by
      have e : cntAll Lay.int.cnt x.vec = x.vec.length := by
        generalize x.vec = l
        induction l with
        | nil => rfl
        | cons y ys ihy => simp only [cntAll, List.length_cons, ihy]; show 1 + ys.length = _; omega
      show 1 + (1 + (cntAll Lay.int.cnt x.vec + (1 + 1))) = _
      omega
    simp only [cntAll, List.length_cons]
    omega
theorem ofR_few (ws : List DWrite) (s : Int) : Lay.tWritesResult.vcnt (ofR ws s) ≤ 100000000 := by
  rw [vcnt_WritesResult]
  show cntAll Lay.tWrite.cnt (ofR ws s).writes ≤ 100000000
  unfold ofR
  split
  · rename_i hf
    obtain ⟨hl, hall⟩ := writesF_zero (asked_zero hf)
    have := writes_few (ws := ofL ws s) fun x hx => hall x (List.mem_filter.1 (show x ∈ ws.filter _ from hx)).1
    have := ofL_len ws s
    show cntAll Lay.tWrite.cnt (ofL ws s) ≤ 100000000
    omega
  · exact Nat.zero_le _
theorem lawOf (v : Value) (ws : List DWrite) (s : Int) (w : World) (h : (Lay.sl Lay.tWrite).Reads w [v] ws) :
    Calls Try.prog 6 #[v, .int .i64 s] w fun e w' => e = .returned (.bool true) ∧ Below w.heap.size w w' := by
  by_cases hn : (Lay.sl Lay.tWrite).sz ws ≤ 1048576
  · exact lawx_OfSession v ws s (ofR ws s) w h hn (fun W a ha => specOf a ws s W ha) (fun W a ha => implOf a ws s W ha) (ofR_few ws s)
  · exact lawover_OfSession v ws s w h (by omega)

end Go.Proofs.Ytkodenmpadehjaa
