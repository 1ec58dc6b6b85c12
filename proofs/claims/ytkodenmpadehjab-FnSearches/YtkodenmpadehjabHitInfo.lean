/-
  Small facts on rows of hits.
  No condition.
-/
import Derived.Test.YtkodenmpadehjabChecked
import Derived.Test.YtkodenmpadehjabHitGround
import Derived.BigQuiet
import Derived.Deep.QuietTactic
import Derived.Deep.RegionWith
namespace Go.Proofs.Ytkodenmpadehjab
open Go.RowKit

theorem infoHit : (Try.prog.info? 38).map (fun i => (i.zero, i.size, i.bytes)) = some (some (.agg #[.int .i64 0, .int .i64 0]), 2, 16) := by kernel_rfl

theorem made2 (n : Nat) : (madeCells #[.int .i64 0, .int .i64 0] (n * 2)).toList = cells2 (List.replicate n (0, 0)) := by
  apply List.ext_getElem?
  intro j
  by_cases hj : j < n * 2
  · obtain ⟨u, hu⟩ : ∃ u, (cells2 (List.replicate n (0, 0)))[j]? = some u := ⟨_, List.getElem?_eq_getElem (by rw [cells2_len]; simpa using hj)⟩
    obtain ⟨k, x, y, h1, h2⟩ := cells2_get _ _ _ hu
    rw [hu]
    simp [List.getElem?_replicate] at h1
    obtain ⟨h3, rfl, rfl⟩ := h1
    have hm : j % 2 = 0 ∨ j % 2 = 1 := by omega
    rcases h2 with ⟨-, rfl⟩ | ⟨-, rfl⟩ <;> rcases hm with hm | hm <;> simp [madeCells, hj, hm]
  · have h1 : (cells2 (List.replicate n ((0 : Int), (0 : Int)))).length = n * 2 := by rw [cells2_len]; simp
    rw [List.getElem?_eq_none (l := cells2 _) (by rw [h1]; omega)]
    simp [madeCells, hj]

/-- Hits that are filled in, up to k. -/
theorem set_fill2 (hs : List (Int × Int)) (k : Nat) (x y : Int) (hk : hs[k]? = some (x, y)) :
    ((cells2 (hs.take k ++ List.replicate (hs.length - k) (0, 0))).set (k * 2) (.int .i64 x)).set (k * 2 + 1) (.int .i64 y) = cells2 (hs.take (k + 1) ++ List.replicate (hs.length - (k + 1)) (0, 0)) := by
  have hlt : k < hs.length := by
    rcases Nat.lt_or_ge k hs.length with h | h
    · exact h
    · rw [List.getElem?_eq_none h] at hk; cases hk
  have hl : (cells2 (hs.take k)).length = k * 2 := by rw [cells2_len]; simp; omega
  rw [cells2_app, List.set_append_right _ _ (by omega), List.set_append_right _ _ (by omega), hl, Nat.sub_self, show k * 2 + 1 - k * 2 = 1 by omega]
  obtain ⟨m, hm⟩ : ∃ m, hs.length - k = m + 1 := ⟨hs.length - k - 1, by omega⟩
  rw [hm, show hs.length - (k + 1) = m by omega, List.replicate_succ, List.take_succ_eq_append_getElem hlt, cells2_app, cells2_app]
  have he : hs[k] = (x, y) := by simpa [hlt] using hk
  rw [he]
  simp [cells2]

theorem below_keep2 {w W W' : World} (h : Below w.heap.size w W) (k : Below W.heap.size W W') : Below w.heap.size w W' := h.trans (k.mono h.size)

end Go.Proofs.Ytkodenmpadehjab
