/-
  What a row's reading tells of a write that came in.
  No condition.
-/
import Derived.Test.YtgjjmbliahhhjaaChecked
import Derived.Test.YtgjjmbliahhhjaaLawWrFault
import Derived.ProofKit
import Derived.OpenShut
namespace Go.Proofs.Ytgjjmbliahhhjaa
open Go.RowKit Go.ChangeShapes Go.WideShapes

set_option maxRecDepth 10000 in
theorem open_write {H : Type} {enc : TypeId × Value → H} {W : World} {b0 : Nat} {r : Reach} {v : Value} {d : DataW H} {p : List MemPlace}
    (hval : Value.okWide Try.prog W r b0 24 v) (h : DataW.Trod enc Try.prog W 0 (fun _ => true) true 24 v d p) :
    ∃ k i u s q zs, v = .agg #[.int .i64 k, .int .i64 i, u, .int .i64 s, .int .i64 q] ∧ Wf4 k i s q ∧ IsInts W u zs ∧ zs.length ≤ maxLen := by
  obtain ⟨cs, rfl, hsz⟩ := okWide_struct Try.underlying24 hval
  have hc5 : Try.prog.cellsOf 24 = 5 := by kernel_rfl
  have hc1 : Try.prog.cellsOf 2 = 1 := by kernel_rfl
  have hcs : Try.prog.cellsOf 22 = 1 := by kernel_rfl
  rw [hc5] at hsz
  obtain ⟨l⟩ := cs
  match l, hsz with
  | [c0, c1, c2, c3, c4], _ =>
  obtain ⟨fuel, hf⟩ := h
  obtain ⟨xs, n, _, hx, _, hlen, hfi⟩ := DataW.trod_struct Try.underlying24 hf
  match xs, hlen with
  | [y0, y1, y2, y3, y4], _ =>
  have f0 := hfi 0 _ rfl
  have f1 := hfi 1 _ rfl
  have f2 := hfi 2 _ rfl
  have f3 := hfi 3 _ rfl
  have f4 := hfi 4 _ rfl
  obtain ⟨k, e0, _, w0⟩ := DataW.trod_int Try.underlying2 f0
  obtain ⟨i, e1, _, w1⟩ := DataW.trod_int Try.underlying2 f1
  obtain ⟨s, e3, _, w3⟩ := DataW.trod_int Try.underlying2 f3
  obtain ⟨q, e4, _, w4⟩ := DataW.trod_int Try.underlying2 f4
  simp [Value.cells, hc1] at e0 e1 e3 e4
  subst e0 e1 e3 e4
  rcases open_ints Try.underlying22 Try.underlying2 (by kernel_rfl) f2 with ⟨hcs2, _⟩ | ⟨x, l, c, zs, hcs2, _, hl, hm, hz, _, hcell, hwz⟩
  · simp [Value.cells, hcs] at hcs2
    subst hcs2
    exact ⟨k, i, _, s, q, [], rfl, ⟨w0, w1, w3, w4⟩, isInts_of_row (.inl ⟨rfl, rfl, rfl, rfl⟩), by simp⟩
  · simp [Value.cells, hcs] at hcs2
    subst hcs2
    refine ⟨k, i, _, s, q, zs.take l, rfl, ⟨w0, w1, w3, w4⟩, isInts_of_row (.inr ⟨x, rfl, hl, hm, by simpa using hz, hcell, hwz⟩), ?_⟩
    simp
    omega

end Go.Proofs.Ytgjjmbliahhhjaa
